package words_test

import (
	"fmt"
	"math/rand"
	"slices"
	"strings"
	"testing"

	"tracery/api"
	"tracery/words"
)

// P16.7: the examples of the chapter.
func TestTextExamples(t *testing.T) {
	for _, x := range []struct {
		w    []int
		want string
	}{
		{word(1, -12), "1 -12"},
		{nil, "."},
		{word(1), "1"},
		{word(-64, 64), "-64 64"},
		{word(1, -1, 10), "1 -1 10"},
	} {
		if got, e := words.Text(x.w...); got != x.want || e != api.OK {
			t.Errorf("Text of %v: %q, %v", x.w, got, e)
		}
		got, e := words.Read(x.want)
		wantWord(t, fmt.Sprintf("Read of %q", x.want), got, e, x.w)
	}
}

// P16.7: texts that are nearly a word's.
func TestReadRefuses(t *testing.T) {
	for _, s := range []string{
		"", " ", "  ", "..", ". ", " .", ". .", ".1", "1.", "1 .", ". 1", "1 . 2",
		"1  2", " 1", "1 ", "1 2 ", " 1 2", "1\t2", "1\n2", "1\n", "\n1", "1,2", "1, 2", "1\u00a02", "1\x00", "\x001", "1 \x00",
		"01", "00", "-01", "1 02", "+1", "1 +2", "-0", "0", "1 0", "0 1", "+0", "--1", "-", "- 1", "1 -", "1-2", "1-", "-1-",
		"65", "-65", "1 65", "065", "100", "-100", "1 -65 2", "640", "6 4 650",
		"9223372036854775807", "9223372036854775808", "-9223372036854775808", "18446744073709551617", "4294967297", "-4294967295", "257", "-255",
		"1" + strings.Repeat("0", 5000), strings.Repeat("0", 5000) + "1", strings.Repeat("1", 1<<20),
		"a", "1 a", "1a", "0x1", "1e0", "1_0", "1.0", "１", "1 ２", "−1", "\xff", "1 \xff", "True", "(1)", "[1 2]",
	} {
		got, e := words.Read(s)
		wantRefused(t, fmt.Sprintf("Read of %.40q", s), got, e, api.ErrWord)
	}
}

// P16.7: just the texts of letters are read, of all short byte strings.
func TestReadOfAllShortTexts(t *testing.T) {
	var texts []string
	for a := range 256 {
		texts = append(texts, string([]byte{byte(a)}))
		for b := range 256 {
			texts = append(texts, string([]byte{byte(a), byte(b)}))
		}
	}
	some := " +-.0123456789\n"
	for _, a := range some {
		for _, b := range some {
			for _, c := range some {
				texts = append(texts, string(a)+string(b)+string(c), "7 "+string(a)+string(b)+string(c))
			}
		}
	}
	want := map[string]bool{".": true}
	for _, k := range order() {
		want[fmt.Sprint(k)] = true
		want["7 "+fmt.Sprint(k)] = true
		for _, l := range order() {
			want[fmt.Sprint(k, " ", l)] = true
			for _, m := range order()[:18] {
				want[fmt.Sprint("7 ", k, " ", l)] = true
				want[fmt.Sprint(k, " ", l, " ", m)] = true
			}
		}
	}
	for _, s := range texts {
		w, e := words.Read(s)
		if ok := e == api.OK; ok != want[s] || !ok && (e != api.ErrWord || w != nil) {
			t.Errorf("Read of %q: %v, %v", s, w, e)
		}
	}
}

// P16.7, P16.8: Read of Text is the word, as it stands.
func TestTextAndBack(t *testing.T) {
	r := rand.New(rand.NewSource(167))
	l := few(5)
	for range 300 {
		l = append(l, mixed(r, 64, r.Intn(80)))
	}
	l = append(l, mixed(r, 64, api.MaxList), row(api.MaxList, -64), row(api.MaxList/2, 1, -1))
	for _, w := range l {
		s, e := words.Text(w...)
		if want := strings.Trim(fmt.Sprint(w), "[]"); e != api.OK || len(w) > 0 && s != want {
			t.Errorf("Text of %v ..: %.40q, %v", brief(w), s, e)
		}
		got, e := words.Read(s)
		wantWord(t, fmt.Sprintf("Read of %.40q", s), got, e, w)
	}
}

// P16.7: a text of one letter more than may be is no word's.
func TestReadAtTheBound(t *testing.T) {
	for _, k := range []string{"1", "-64", "9"} {
		s := strings.Repeat(k+" ", api.MaxList-1) + k
		got, e := words.Read(s)
		if e != api.OK || len(got) != api.MaxList {
			t.Errorf("Read of MaxList letters %s: %d, %v", k, len(got), e)
		}
		for _, more := range []string{" 1", " -64", " ", " 65", " .", "\n"} {
			got, e = words.Read(s + more)
			wantRefused(t, fmt.Sprintf("Read of MaxList letters %s and %q", k, more), got, e, api.ErrWord)
		}
	}
	got, e := words.Read(strings.Repeat("1 -1 ", 1<<18) + "1")
	wantRefused(t, "Read of very many letters", got, e, api.ErrWord)
}

// P16.7: the word that is read is new each time.
func TestReadIsNew(t *testing.T) {
	for _, s := range []string{".", "1", "1 -12 5", strings.Repeat("3 ", 4095) + "3"} {
		first, e := words.Read(s)
		want := slices.Clone(must(t, first, e))
		spoil(first)
		again, e := words.Read(s)
		wantWord(t, "read again", again, e, want)
	}
}
