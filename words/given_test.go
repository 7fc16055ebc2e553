package words_test

import (
	"fmt"
	"math"
	"testing"

	"tracery/api"
	"tracery/words"
)

// wrongLetters are numbers that are no letters.
func wrongLetters() []int {
	return []int{0, api.MaxMaps + 1, -api.MaxMaps - 1, math.MinInt, math.MinInt + 1, math.MaxInt}
}

// wrongWords have a letter that is none, at each place, some of them in a list
// that is too long besides.
func wrongWords() [][]int {
	var l [][]int
	for _, k := range wrongLetters() {
		l = append(l, word(k), word(k, 1), word(1, k), word(1, -1, k), word(64, -64, k, 2))
		for _, n := range []int{api.MaxList, api.MaxList + 1} {
			for _, at := range []int{0, 1, n - 1} {
				w := row(n, 1)
				w[at] = k
				l = append(l, w)
			}
		}
	}
	return l
}

// longWords have one letter more than may be, or far more, though less may be
// left of them.
func longWords() [][]int {
	return [][]int{
		row(api.MaxList+1, 1),
		row(api.MaxList+1, -64),
		row(api.MaxList/2+1, 1, -1),
		tallest(api.MaxList + 1),
		row(1<<18, 1, -1),
	}
}

// call is a call of the package of which the words alone are looked at; zero
// tells whether all answers but the error were zero.
type call struct {
	name string
	do   func(w []int) (zero bool, e api.Errno)
}

func told(w []int, e api.Errno) (bool, api.Errno) { return w == nil, e }

func said(b bool, e api.Errno) (bool, api.Errno) { return !b, e }

// calls hand the word in at each place that takes one, beside good ones.
func calls() []call {
	fine := word(1, 2, -1)
	return []call{
		{"Check", func(w []int) (bool, api.Errno) { return true, words.Check(w...) }},
		{"Short", func(w []int) (bool, api.Errno) { return told(words.Short(w...)) }},
		{"Inverse", func(w []int) (bool, api.Errno) { return told(words.Inverse(w...)) }},
		{"Mul of one", func(w []int) (bool, api.Errno) { return told(words.Mul(w)) }},
		{"Mul, first", func(w []int) (bool, api.Errno) { return told(words.Mul(w, fine)) }},
		{"Mul, last", func(w []int) (bool, api.Errno) { return told(words.Mul(fine, nil, w)) }},
		{"Pow 0", func(w []int) (bool, api.Errno) { return told(words.Pow(w, 0)) }},
		{"Pow 1", func(w []int) (bool, api.Errno) { return told(words.Pow(w, 1)) }},
		{"Pow least", func(w []int) (bool, api.Errno) { return told(words.Pow(w, math.MinInt)) }},
		{"Conj", func(w []int) (bool, api.Errno) { return told(words.Conj(w, fine)) }},
		{"Conj of none", func(w []int) (bool, api.Errno) { return told(words.Conj(w, nil)) }},
		{"Conj by", func(w []int) (bool, api.Errno) { return told(words.Conj(fine, w)) }},
		{"Conj none by", func(w []int) (bool, api.Errno) { return told(words.Conj(nil, w)) }},
		{"Core", func(w []int) (bool, api.Errno) {
			core, by, e := words.Core(w...)
			return core == nil && by == nil, e
		}},
		{"Root", func(w []int) (bool, api.Errno) {
			root, n, e := words.Root(w...)
			return root == nil && n == 0, e
		}},
		{"Alike, first", func(w []int) (bool, api.Errno) { return said(words.Alike(w, fine)) }},
		{"Alike, second", func(w []int) (bool, api.Errno) { return said(words.Alike(fine, w)) }},
		{"Alike to itself", func(w []int) (bool, api.Errno) { return said(words.Alike(w, w)) }},
		{"Commute, first", func(w []int) (bool, api.Errno) { return said(words.Commute(w, nil)) }},
		{"Commute, second", func(w []int) (bool, api.Errno) { return said(words.Commute(nil, w)) }},
		{"Commute with itself", func(w []int) (bool, api.Errno) { return said(words.Commute(w, w)) }},
		{"Cmp, first", func(w []int) (bool, api.Errno) {
			n, e := words.Cmp(w, fine)
			return n == 0, e
		}},
		{"Cmp, second", func(w []int) (bool, api.Errno) {
			n, e := words.Cmp(fine, w)
			return n == 0, e
		}},
		{"Put", func(w []int) (bool, api.Errno) { return told(words.Put(w, fine, fine)) }},
		{"Put, first image", func(w []int) (bool, api.Errno) { return told(words.Put(word(2), w, fine)) }},
		{"Put, last image", func(w []int) (bool, api.Errno) { return told(words.Put(nil, fine, w)) }},
		{"Text", func(w []int) (bool, api.Errno) {
			s, e := words.Text(w...)
			return s == "", e
		}},
	}
}

// P16.1 to P16.5, P16.7: a letter that is none is refused wherever it stands,
// ahead of a list that is too long; that is refused, too, though it cancels.
func TestWordsAreRefused(t *testing.T) {
	for _, c := range calls() {
		for i, w := range wrongWords() {
			if zero, e := c.do(w); e != api.ErrArg || !zero {
				t.Errorf("%s of wrong word %d (%v ..): %v", c.name, i, brief(w), e)
			}
		}
		for i, w := range longWords() {
			if zero, e := c.do(w); e != api.ErrLong || !zero {
				t.Errorf("%s of long word %d (%v ..): %v", c.name, i, brief(w), e)
			}
		}
	}
}

// pairs are the calls that take two words or more, in both orders.
func pairs() map[string]func(v, w []int) api.Errno {
	return map[string]func(v, w []int) api.Errno{
		"Mul":        func(v, w []int) api.Errno { _, e := words.Mul(v, w); return e },
		"Mul apart":  func(v, w []int) api.Errno { _, e := words.Mul(nil, v, nil, w, nil); return e },
		"Conj":       func(v, w []int) api.Errno { _, e := words.Conj(v, w); return e },
		"Alike":      func(v, w []int) api.Errno { _, e := words.Alike(v, w); return e },
		"Commute":    func(v, w []int) api.Errno { _, e := words.Commute(v, w); return e },
		"Cmp":        func(v, w []int) api.Errno { _, e := words.Cmp(v, w); return e },
		"Put":        func(v, w []int) api.Errno { _, e := words.Put(v, w); return e },
		"Put images": func(v, w []int) api.Errno { _, e := words.Put(nil, v, w); return e },
	}
}

// P16.2, P16.4, P16.5: ErrArg of any word is ahead of ErrLong of any other one.
func TestLettersAreAheadOfLengths(t *testing.T) {
	long := row(api.MaxList+1, 1)
	for name, do := range pairs() {
		for _, k := range wrongLetters() {
			wrong := word(1, k)
			if e := do(long, wrong); e != api.ErrArg {
				t.Errorf("%s of one too long and one with %d: %v", name, k, e)
			}
			if e := do(wrong, long); e != api.ErrArg {
				t.Errorf("%s of one with %d and one too long: %v", name, k, e)
			}
		}
		if e := do(long, long); e != api.ErrLong {
			t.Errorf("%s of two that are too long: %v", name, e)
		}
	}
}

// P16.1 to P16.5, P16.7: all letters and words as long as may be are taken.
func TestWordsAreTaken(t *testing.T) {
	letters := []int{1, -1, 2, -2, api.MaxMaps, -api.MaxMaps}
	lists := [][]int{nil, {}, row(api.MaxList, 1), row(api.MaxList/2, -64, 64), tallest(api.MaxList)}
	for _, k := range letters {
		lists = append(lists, word(k), word(k, -k), word(k, k))
	}
	for _, w := range lists {
		name := fmt.Sprintf("%d letters, %v ..", len(w), brief(w))
		if e := words.Check(w...); e != api.OK {
			t.Errorf("Check of %s: %v", name, e)
		}
		if got, e := words.Inverse(w...); e != api.OK || len(got) != len(w) {
			t.Errorf("Inverse of %s: %d letters, %v", name, len(got), e)
		}
		if _, e := words.Text(w...); e != api.OK {
			t.Errorf("Text of %s: %v", name, e)
		}
		if n, e := words.Cmp(w, w); n != 0 || e != api.OK {
			t.Errorf("Cmp of %s with itself: %d, %v", name, n, e)
		}
		if got, e := words.Alike(w, w); !got || e != api.OK {
			t.Errorf("Alike of %s with itself: %v, %v", name, got, e)
		}
	}
}
