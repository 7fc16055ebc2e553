package shop_test

import (
	"fmt"
	"math"
	"slices"
	"strings"
	"testing"

	"tracery/api"
	"tracery/shop"
)

const (
	makers = "point fourth bring home map turn send over then back circle round line mix disk half member four swap knife net flip mirrors image"
	askers = "tell ratio on lies meet far order pack quotients word grow draw"
)

// tables are the chapter's, of the verbs that take a number of arguments that
// does not hang on them; I is a thing of which there are images, S (elsewhere) a
// count of 0 or 1.
var tables = map[string]string{
	"point": "P", "fourth": "PPPP", "bring": "GP#", "home": "P", "map": "aaaa", "turn": "aaaa", "send": "PPPPPP", "over": "C", "back": "M", "circle": "PPP", "round": "af", "line": "aa",
	"mix": "CCff", "disk": "af", "half": "aa", "member": "F#", "four": "DDDD", "swap": "F#", "knife": "f", "flip": "NaP", "image": "MI",
	"tell": "X", "ratio": "PPPP", "on": "CP", "lies": "CC", "meet": "CC", "far": "#PP", "order": "M", "pack": "F#", "quotients": "a", "draw": "X",
}

// good are statements that go well with the stock, one at least for each verb.
const good = `point =z (1,2); point =z (inf); point =z i; fourth =z (0,0) one inf (2,0); bring =z g (2,1) #9; home =z (7,1); map =z (1,0) (0,2) (3,0) (0,-4); turn =z (1,0) (0,2) (3,0) (0,-4);
send =z zero (1,0) inf one (5,0) (0,1); over =z u; then =z; then =z m; then =z m j t; back =z m; circle =z one i (-1,0); round =z (1,1) (2,0); line =z (1,1) (2,0);
mix =z u v (1,0) (-1,0); disk =z (1,2) (-3,0); half =z (3,4) (0,1); member =z f #7; four =z o a b c; swap =z f #3; knife =z (1/3,0); net =z #1 #2 (1,0) (2,0) (3,0) (0,0) one i (5,0);
flip =z n (2,0) (3,1); mirrors =z; mirrors =z u #0; mirrors =z u #1 l #0; image =z m q; image =z j u; image =z m a; image =z m f; image =z j n;
tell q; tell m; tell u; tell a; tell f; tell n; tell g; ratio zero (1,0) inf (0,1); on u i; lies u v; meet u v; far #1 (0,1) (0,2); far #2 zero (0,0); order j; pack f #1; quotients (1/2,1/3);
word; word [1.2] [-2]; grow #2; grow #2 r; grow #1 r j; draw q; draw m; draw u; draw a; draw f; draw n; draw g`

func TestVerbs(t *testing.T) { // P31.4
	for range 2 {
		var made, asked []string
		for v, makes := range shop.Verbs() {
			if makes && len(asked) > 0 {
				t.Errorf("%s makes, behind one that asks", v)
			}
			if makes {
				made = append(made, v)
			} else {
				asked = append(asked, v)
			}
		}
		if strings.Join(made, " ") != makers || strings.Join(asked, " ") != askers {
			t.Errorf("%q, %q", made, asked)
		}
	}
	all := shop.Verbs()
	for n := range 40 {
		var l []string
		for v := range all {
			if len(l) == n {
				break
			}
			l = append(l, v)
		}
		if !slices.Equal(l, strings.Fields(makers + " " + askers)[:min(n, 36)]) {
			t.Errorf("up to %d: %q", n, l)
		}
	}
}

// All that Verbs tells are verbs, and go well; no others are.
func TestVerbsAreKnown(t *testing.T) { // P31.1, P31.4
	s := shopOf(t, stock)
	met := map[string]int{}
	for _, x := range sceneOf(t, good) {
		if _, e := s.Copy().Do(x); e != api.OK {
			t.Errorf("%s: %v", lineOf(x), e)
		}
		met[x.Verb]++
	}
	for v := range shop.Verbs() {
		if met[v] == 0 {
			t.Errorf("no %s", v)
		}
		delete(met, v)
	}
	if len(met) > 0 {
		t.Error(met)
	}
	for _, v := range []string{"fly", "a", "points", "poin", "drawn", "maps", "things", "show", "near", "scene", "inf", "zzzzzzzzzzzzzzzz"} {
		for _, x := range sceneOf(t, good) {
			x.Verb = v
			wantDo(t, s, x, nil, api.ErrVerb)
		}
	}
}

// A name stands with a verb that makes, and with no other.
func TestNamesAndVerbs(t *testing.T) { // P31.1
	s := shopOf(t, stock)
	for _, x := range sceneOf(t, good) {
		if x.Name != "" {
			x.Name = ""
			wantDo(t, s, x, nil, api.ErrVerb)
			continue
		}
		for _, name := range []string{"z", "u", "nobody"} {
			x.Name = name
			wantDo(t, s, x, nil, api.ErrVerb)
		}
	}
}

// Each verb with each number of arguments.
func TestNumberOfArguments(t *testing.T) { // P31.1
	one := map[byte]api.Arg{'P': named("q"), 'M': named("m"), 'C': named("u"), 'D': named("a"), 'F': named("f"), 'N': named("n"), 'G': named("g"), 'X': named("m"), 'I': named("u"), 'a': number(plain(1), plain(1)), 'f': along(plain(1)), '#': count(1), 'S': count(1), 'W': word(1)}
	many := map[string]string{"then": "M", "word": "W", "grow": "#M", "mirrors": "CS"} // from here on it goes on as said
	s := shopOf(t, stock)
	for v, makes := range shop.Verbs() {
		name := ""
		if makes {
			name = "z"
		}
		letters := tables[v] + many[v]
		for n := range 65 {
			args := make([]api.Arg, n)
			for k := range args {
				letter := letters
				switch v {
				case "mirrors":
					letter = letters[k%2:]
				case "net":
					letter = "##aaPPP"[min(k, 6):]
				default:
					letter = letters[min(k, len(letters)-1):]
				}
				args[k] = one[letter[0]]
			}
			right := n == len(letters)
			switch v {
			case "then", "word":
				right = true
			case "grow":
				right = n >= 1
			case "mirrors":
				right = n%2 == 0
			case "net":
				right = n == 7
			}
			_, e := s.Copy().Do(stmt(v, name, args...))
			if right == (e == api.ErrVerb) || e == api.ErrKind || e == api.ErrName {
				t.Fatalf("%s with %d: %v", v, n, e)
			}
		}
	}
}

// Each verb with each kind of argument at each place.
func TestKindsOfArguments(t *testing.T) { // P31.1
	s := shopOf(t, stock)
	counts := tally{}
	for _, x := range sceneOf(t, good) {
		for k, letter := range lettersOf(x) {
			for _, a := range anyArgs() {
				y := x
				y.Args = slices.Clone(x.Args)
				y.Args[k] = a
				want := fitting(letter, a)
				_, e := s.Copy().Do(y)
				counts[e]++
				is := e
				if e != api.ErrVerb && e != api.ErrName && e != api.ErrKind {
					is = api.OK
				}
				// Another count of a net's makes its arguments too many or too few.
				if x.Verb == "net" && k < 2 && a.Kind == api.ArgCount {
					if want = api.OK; a.Count != x.Args[k].Count {
						want = api.ErrVerb
					}
				}
				if is != want {
					t.Fatalf("%s: %v, not %v", lineOf(y), e, want)
				}
				if e != api.OK {
					wantDo(t, s, y, nil, e)
				}
			}
		}
	}
	counts.want(t, 40, api.OK, api.ErrVerb, api.ErrName, api.ErrKind)
}

// lettersOf tells by the chapter's letters what stands at each place of a statement
// whose number of arguments is right.
func lettersOf(x api.Stmt) string {
	n := len(x.Args)
	switch x.Verb {
	case "then":
		return strings.Repeat("M", n)
	case "word":
		return strings.Repeat("W", n)
	case "grow":
		return "#" + strings.Repeat("M", n-1)
	case "mirrors":
		return strings.Repeat("CS", n/2)
	case "net":
		labels := x.Args[0].Count + x.Args[1].Count
		return "##" + strings.Repeat("a", labels) + strings.Repeat("P", n-2-labels)
	}
	return tables[x.Verb]
}

// fitting tells what is wrong with an argument, names being those of the stock.
func fitting(letter rune, a api.Arg) api.Errno {
	forms := map[api.ArgKind]string{api.ArgNumber: "aP", api.ArgInf: "P", api.ArgWord: "W", api.ArgCount: "#", api.ArgName: "PMCDFNGXI"}
	if a.Kind == api.ArgNumber && a.Z.Im == plain(0) {
		forms[a.Kind] += "f"
	}
	if a.Kind == api.ArgCount && a.Count < 2 {
		forms[a.Kind] += "S"
	}
	switch {
	case !strings.ContainsRune(forms[a.Kind], letter):
		return api.ErrVerb
	case a.Kind != api.ArgName || letter == 'X' && a.Name != "nobody":
		return api.OK
	}
	for kind, names := range kindsOfStock {
		if !slices.Contains(names, a.Name) {
			continue
		}
		if rune(kind) == letter || letter == 'I' && !strings.ContainsRune("MG", rune(kind)) {
			return api.OK
		}
		return api.ErrKind
	}
	return api.ErrName
}

// Counts of nets: as many arguments as they say, and no others.
func TestNetCounts(t *testing.T) { // P31.1
	s := shopOf(t, stock)
	one, i := along(plain(1)), number(plain(0), plain(1))
	for w := range 4 {
		for h := range 4 {
			for labels := range 9 {
				for points := range 9 {
					args := append([]api.Arg{count(w), count(h)}, slices.Repeat([]api.Arg{one}, labels)...)
					args = append(args, slices.Repeat([]api.Arg{named("i")}, points)...)
					want := api.ErrVerb
					// What stands behind the labels may be a number as well. That no label
					// is there, or that all are the same, is the net's own error.
					if labels+points == 2*(w+h)+1 && labels >= w+h {
						want = api.ErrArg
					}
					wantDo(t, s, stmt("net", "z", args...), nil, want)
				}
			}
		}
	}
	// Numbers may be points, too, but no other way round.
	for k := 2; k < 7; k++ {
		args := []api.Arg{count(1), count(1), one, one, i, i, i}
		args[k] = named("q")
		want := api.ErrVerb
		if k >= 4 {
			want = api.ErrArg
		}
		wantDo(t, s, stmt("net", "z", args...), nil, want)
		args[k] = inf()
		wantDo(t, s, stmt("net", "z", args...), nil, want)
	}
	for _, n := range []int{5, 30, 31, 61, 62, 64, 1 << 16, math.MaxInt32 - 1, math.MaxInt32} {
		for _, m := range []int{0, 1, 31, 64, math.MaxInt32} {
			for _, size := range []int{2, 3, 7, 63, 64} {
				args := append([]api.Arg{count(n), count(m)}, slices.Repeat([]api.Arg{one}, size-2)...)
				want := api.ErrVerb
				if size == 3+2*n+2*m {
					want = api.ErrArg // all labels are the same, or there are none
				}
				wantDo(t, s, stmt("net", "z", args...), nil, want)
				args[0], args[1] = args[1], args[0]
				wantDo(t, s, stmt("net", "z", args...), nil, want)
			}
		}
	}
}

// As many arguments as may be: 30 labels, 32 mirrors, 64 maps.
func TestManyArguments(t *testing.T) { // P31.1
	s := shopOf(t, stock)
	for w := 1; w < 30; w++ {
		h := 30 - w
		args := []api.Arg{count(w), count(h)}
		for k := range 30 {
			label := 1
			if k >= w {
				label = -1
			}
			args = append(args, along(plain(int64(label))))
		}
		for k := range w + 1 {
			args = append(args, along(plain(int64(k))))
		}
		for k := range h {
			args = append(args, number(plain(0), plain(int64(k+1))))
		}
		name := fmt.Sprint("n", w)
		wantDo(t, s, stmt("net", name, args...), nil, api.OK)
		l, _ := s.Text(name)
		if len(l) != h+1 || len(strings.Fields(l[h])) != w+1 || !strings.HasSuffix(l[h], fmt.Sprint(" ", w, "+", h, "i")) {
			t.Fatal(w, l)
		}
	}
	wantDo(t, s, stmt("mirrors", "many", slices.Repeat([]api.Arg{named("u"), count(1)}, 32)...), nil, api.OK)
	wantText(t, s, "many", slices.Repeat([]string{"1 0 -1 1"}, 32)...)
	wantDo(t, s, stmt("then", "far", slices.Repeat([]api.Arg{named("m")}, 64)...), nil, api.OK)
	wantText(t, s, "far", "map 18446744073709551616 18446744073709551615 0 1")
	wantDo(t, s, stmt("word", "", slices.Repeat([]api.Arg{word(1)}, 64)...), []string{strings.TrimSpace(strings.Repeat("1 ", 64))}, api.OK)
	wantDo(t, s, stmt("grow", "", append([]api.Arg{count(9)}, slices.Repeat([]api.Arg{named("r")}, 63)...)...), []string{"4"}, api.OK)
}
