package console_test

import (
	"slices"
	"strings"
	"testing"

	"tracery/api"
	"tracery/console"
)

// goodOf are words that may stand at a place, wrongOf such as may not.
func goodOf(letter byte) []string {
	switch letter {
	case 'x':
		return []string{"1/2", "1", "7/5", "355/113"}
	case '#':
		return []string{"1", "2", "3", "50"}
	case 'X':
		return []string{"zero", "j", "u", "a", "f", "n", "g"}
	}
	return namesOf(letter)
}

func wrongOf(letter byte) []string {
	l := []string{"A", "_", "+1", "-", "/", "1/", "/2", "1e3", "0x1", "(1,0)", "(inf)", "#1", "[]", "=zero", "\xff", "\xc3\xa4", "\t", "\r", "\x00", "1.5", "1,5", "١"}
	switch letter {
	case 'x':
		return append(l, "zero", "inf", "a", "00", "01", "-0", "+1/2", "2/4", "4/2", "1/1", "0/1", "0/2", "1/0", "1/-2", "-1/-2", "1/02", "01/2", "1//2", "1/2/3", "1/2i", "i", "1\t", power(8192), "1/"+power(8192), "-"+power(8192))
	case '#':
		return append(l, "zero", "a", "00", "01", "007", "-1", "-0", "1/2", "1000000000", "0999999999", "00000000000", "4294967297", "18446744073709551617", "1"+strings.Repeat("0", 30), "1_0", "1a", "a1", "9/", "9:")
	}
	return append(l, "0", "1", "1/2", "Zero", "zEro", "zerO", "0zero", "-zero", "zero_", "zero.", "zero'", "zero\xff", "zero\t", "zero`", "zero{", strings.Repeat("a", 33), strings.Repeat("a", 1000))
}

// goodWords are the words behind an order's first one, good ones all.
func goodWords(order string) []string {
	var l []string
	for k, letter := range []byte(tableOf()[order]) {
		from := goodOf(letter)
		l = append(l, from[k%len(from)])
	}
	return l
}

// Each order with a word too few and one too many.
func TestHowManyWords(t *testing.T) { // P32.1
	for order, letters := range tableOf() {
		words := append([]string{order}, goodWords(order)...)
		if s := behind(t, stock(), strings.Join(words, " ")); s == "error 2\n" && order != "scene" {
			t.Errorf("%q: %q", words, s)
		}
		var l []string
		for _, more := range []string{"zero", "1", "1/2", "nobody", "A", "\t"} {
			l = append(l, strings.Join(append(words, more), " "), strings.Join(append([]string{order, more}, words[1:]...), " "))
		}
		if len(letters) > 0 {
			l = append(l, strings.Join(words[:len(letters)], " "), order)
		}
		wantRefused(t, "error 2", l...)
	}
}

// Each wrong word at each place, whatever stands at the others: ErrArg is ahead of
// ErrName.
func TestOtherWords(t *testing.T) { // P32.1
	for order, letters := range tableOf() {
		words := append([]string{order}, goodWords(order)...)
		var l []string
		for k, letter := range []byte(letters) {
			for _, wrong := range wrongOf(letter) {
				x := slices.Clone(words)
				x[1+k] = wrong
				l = append(l, strings.Join(x, " "))
				for j := range letters {
					if j != k && letters[j] != 'x' && letters[j] != '#' {
						x[1+j] = "nobody"
					}
				}
				l = append(l, strings.Join(x, " "))
			}
		}
		wantRefused(t, "error 2", l...)
	}
}

// A name is as long as may be, of all bytes that may be.
func TestNames(t *testing.T) { // P32.1
	for _, name := range []string{"a", "z", "a0", "a-", "z9--0", "things", "show", "tell", "inf", "nobody", "abcdefghijklmnopqrstuvwxyz012345", "a" + strings.Repeat("-", 31), strings.Repeat("z", 32)} {
		wantRun(t, "show "+name, "error 401\n")
		wantRun(t, ended("point ="+name+" (1,2)", "show "+name, "near "+name, "things", "chord "+name+" "+name, "kind "+name), ended("ok", "1+2i", "3ff0000000000000,4000000000000000", name+" 1", "0", "error 411"))
	}
	for _, name := range []string{strings.Repeat("z", 33), strings.Repeat("z", 32) + "-"} {
		wantRun(t, ended("point ="+name+" (1,2)", "show "+name), ended("error 400", "error 2"))
	}
}

// Of each thing that an order names the kind is asked, behind all names.
func TestKinds(t *testing.T) { // P32.1
	for order, letters := range tableOf() {
		for k, letter := range []byte(letters) {
			if strings.IndexByte("x#X", letter) >= 0 {
				continue
			}
			kinds, names, words := others(order, letters, k)
			wantRefused(t, "error 411", kinds...)
			wantRefused(t, "error 401", names...)
			wantRefused(t, "error 2", words...)
		}
	}
}

// others are orders with things of other kinds at one place, alone, and beside
// another thing of another kind; beside a name that does not stand, and beside none.
func others(order, letters string, k int) (kinds, names, words []string) {
	for _, kind := range []byte("PMCDFNG") {
		if kind == letters[k] {
			continue
		}
		for _, name := range namesOf(kind) {
			l := append([]string{order}, goodWords(order)...)
			l[1+k] = name
			kinds = append(kinds, strings.Join(l, " "))
			if len(letters) != 2 {
				continue
			}
			for _, to := range []struct {
				word string
				in   *[]string
			}{{"g", &kinds}, {"nobody", &names}, {"Nobody", &words}} {
				l[2-k] = to.word
				*to.in = append(*to.in, strings.Join(l, " "))
			}
		}
	}
	return kinds, names, words
}

// Names stand as long as the shop with their things does.
func TestNamesComeAndGo(t *testing.T) { // P32.1
	wantLines(t, "show p; point =p (1,0); show p; new; show p; point =p (2,0); show p; point =p (3,0); show p", "error 401; ok; 1; ok; error 401; ok; 2; error 401; 2")
	wantLines(t, "near p; map =p (1,0) (1,0) (0,0) (1,0); near p; kind p; new; point =p (0,0); near p; kind p", "error 401; ok; error 411; 2 0; ok; ok; 0000000000000000,0000000000000000; error 411")
}

// Several things are wrong at once.
func TestOrderOfErrors(t *testing.T) { // P32.1
	for order, want := range map[string]string{
		"fly nobody":       "error 2",
		"things nobody":    "error 2",
		"restore 1":        "error 2",
		"box 1":            "error 2",
		"row 51 1":         "error 2",
		"row 051":          "error 2",
		"way 0 1":          "error 2",
		"way -1 nobody":    "error 2",
		"count 65 01":      "error 2",
		"best 2/4 0":       "error 2",
		"best 1/3 100001":  "error 2",
		"scene 1 1":        "error 2",
		"scene -1":         "error 2",
		"scene 01":         "error 2",
		"scene 1000000000": "error 2",
		"scene":            "error 2",
		"scene nobody":     "error 2",
		"chord nobody N":   "error 2",
		"chord u N":        "error 2",
		"chord u nobody":   "error 401",
		"chord nobody u":   "error 401",
		"chord long u":     "error 411",
		"chord u long":     "error 411",
		"near nobody N":    "error 2",
		"stay N":           "error 2",
		"tell N nobody":    "error 400",
		"tell nobody u":    "error 410",
		"lies nobody zero": "error 401",
	} {
		wantRefused(t, want, order)
	}
	wantLines(t, "restore 1; restore", "error 2; error 7")
}

// A text as long as may be is gone over to its end; of one more nothing is done.
func TestLong(t *testing.T) { // P32.1
	blanks := strings.Repeat(" ", api.MaxConsole-7)
	for text, want := range map[string]string{
		blanks + "count 2":                                          "error 2\n",
		blanks + "row 1\n\n":                                        "0\n1\n",
		"row 1\n\n" + blanks:                                        "0\n1\n",
		"row 1\n" + blanks[1:] + "\n\n":                             "0\n1\n",
		strings.Repeat("\n", api.MaxConsole-5) + "row 1":            "0\n1\n",
		strings.Repeat("x", api.MaxConsole):                         "error 2\n",
		"things " + blanks:                                          "",
		"fly\n" + strings.Repeat(" \n", api.MaxConsole/2-2):         "error 2\n",
		strings.Repeat("keep\n\n  ", api.MaxConsole/8):              strings.Repeat("ok\n", api.MaxConsole/8),
		strings.Repeat("show x1\n", api.MaxConsole/8):               strings.Repeat("error 401\n", api.MaxConsole/8),
		"scene 999999999\n" + strings.Repeat("\n", 1<<20-16):        "error 2\n",
		"scene 1\npoint =p (0,0) " + blanks[16:]:                    "error 400\n",
		"show " + strings.Repeat("a", api.MaxConsole-5):             "error 2\n",
		"row 1" + strings.Repeat("0", api.MaxConsole-5):             "error 2\n",
		"way 1/" + strings.Repeat("3", api.MaxConsole-6):            "error 2\n",
		"point =p (" + strings.Repeat("1", api.MaxConsole-12) + ",": "error 400\n",
	} {
		if len(text) != api.MaxConsole && len(text) != api.MaxConsole-1 {
			t.Fatalf("%.30q has %d bytes", text, len(text))
		}
		s, e := console.Run(text)
		if s != want || e != api.OK {
			t.Errorf("%.30q: %.100q, %v, not %.100q", text, s, e, want)
		}
		for _, more := range []string{" ", "\n", "x", "\n\n\n", text} {
			if len(text)+len(more) <= api.MaxConsole {
				continue
			}
			if s, e := console.Run(text + more); s != "" || e != api.ErrLong {
				t.Errorf("%.30q and %d more: %.100q, %v", text, len(more), s, e)
			}
		}
	}
}
