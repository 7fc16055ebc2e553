package group_test

import (
	"math"
	"math/rand"
	"slices"
	"strconv"
	"testing"

	"tracery/api"
)

// P17.3: the examples of Step.
func TestStepExamples(t *testing.T) {
	g := grown(t, 2, shift())
	i, e := g.Step(1, 1)
	wantNumber(t, "s behind s", i, e, 3)
	i, e = g.Step(3, 1)
	wantNoNumber(t, "s behind s s", i, e, api.ErrNone)
	i, e = g.Step(3, -1)
	wantNumber(t, "back from s s", i, e, 1)
	l, e := g.Row(4)
	wantWord(t, "the row of -s -s", l, e, 2, -1)
	l, e = made(t).Row(0)
	wantWord(t, "the row of a group without letters", l, e)
}

// P17.3: each Step leads to the map of the first word and the letter behind it,
// where that is told; Row tells the same.
func TestSteps(t *testing.T) {
	for _, c := range groups() {
		all := firsts(c.maps, c.deep-1)
		g := grown(t, c.deep-1, c.maps...)
		for i, x := range all {
			row, e := g.Row(i)
			if e != api.OK || len(row) != 2*len(c.maps) {
				t.Fatalf("%s: a row of %d, %v", c.name, len(row), e)
			}
			for place, letter := range letters(len(c.maps)) {
				want := placed(all, x.m.behind(move(c.maps, letter)))
				got, e := g.Step(i, letter)
				if row[place] != want {
					t.Errorf("%s: the row of %d has %d by %d, want %d", c.name, i, row[place], letter, want)
				}
				if want < 0 {
					wantNoNumber(t, c.name, got, e, api.ErrNone)
				} else {
					wantNumber(t, c.name, got, e, want)
				}
			}
		}
	}
}

// P17.3: a letter that is none ahead of an element that is none.
func TestStepRefuses(t *testing.T) {
	for _, c := range groups() {
		g := grown(t, 2, c.maps...)
		for _, i := range append(wrongNumbers(g.Len()), 0, g.Len()-1) {
			for _, letter := range wrongLetters(len(c.maps)) {
				n, e := g.Step(i, letter)
				wantNoNumber(t, c.name+", a wrong letter", n, e, api.ErrArg)
			}
		}
		for _, i := range wrongNumbers(g.Len()) {
			for _, letter := range letters(len(c.maps)) {
				n, e := g.Step(i, letter)
				wantNoNumber(t, c.name+", no element", n, e, api.ErrNone)
			}
			l, e := g.Row(i)
			wantNoWord(t, c.name+", no element", l, e, api.ErrNone)
		}
	}
}

// P17.3: a letter whose own map is too big leads nowhere that is told; a map
// that is as big as may be leads there and back.
func TestStepsTooBig(t *testing.T) {
	g := made(t, oneWay())
	wantError(t, "Grow", g.Grow(1), api.ErrBig)
	for _, letter := range []int{1, -1} {
		i, e := g.Step(0, letter)
		wantNoNumber(t, "Step", i, e, api.ErrNone)
	}
	l, e := g.Row(0)
	wantWord(t, "Row", l, e, -1, -1)
	g = grown(t, 1, tall())
	for i, want := range [][]int{{1, 2}, {-1, 0}, {0, -1}} {
		l, e = g.Row(i)
		wantWord(t, "Row of "+strconv.Itoa(i), l, e, want...)
	}
	g = made(t, oneWay(), still())
	l, e = g.Row(0)
	wantWord(t, "Row beside nothing", l, e, -1, -1, 0, 0)
}

// P17.4: the examples of Of and First.
func TestWordExamples(t *testing.T) {
	g := grown(t, 3, swap(), shift())
	m, e := g.Of(1, 2)
	wantMap(t, "Of(1, 2)", m, e, charted(0, 1, 1, 1))
	w, e := g.First(1, 1)
	wantWord(t, "First(1, 1)", w, e)
	w, e = g.First(2, -2, 1)
	wantWord(t, "First(2, -2, 1)", w, e, 1)
	w, e = g.First()
	wantWord(t, "First()", w, e)
	m, e = g.Of()
	wantMap(t, "Of()", m, e, still())
	m, e = made(t).Of()
	wantMap(t, "Of() of none", m, e, still())
}

func oddWord(r *rand.Rand, letters, n int) []int {
	w := make([]int, n)
	for k := range w {
		w[k] = 1 + r.Intn(letters)
		if r.Intn(2) == 0 {
			w[k] *= -1
		}
	}
	return w
}

// P17.4: Of does not hang on how far the group is grown; First goes beginning
// by beginning.
func TestWords(t *testing.T) {
	r := rand.New(rand.NewSource(174))
	for _, c := range groups() {
		if len(c.maps) == 0 {
			continue
		}
		deep := c.deep - 2
		all := firsts(c.maps, deep)
		g := grown(t, deep, c.maps...)
		for range 60 {
			word := oddWord(r, len(c.maps), r.Intn(9))
			m, e := g.Of(word...)
			wantMap(t, c.name, m, e, wordMap(c.maps, word))
			at := 0
			for n := 0; n <= len(word) && at >= 0; n++ {
				at = placed(all, wordMap(c.maps, word[:n]))
			}
			w, e := g.First(word...)
			if at < 0 {
				wantNoWord(t, c.name, w, e, api.ErrNone)
			} else {
				wantWord(t, c.name, w, e, all[at].word...)
			}
		}
	}
}

// P17.4: a word whose own map is told, but not that of a beginning.
func TestFirstOfBeginnings(t *testing.T) {
	g := grown(t, 2, shift())
	for _, c := range []struct{ word, first []int }{
		{[]int{1, 1, -1}, []int{1}},
		{[]int{1, 1, -1, -1, -1, -1}, []int{-1, -1}},
		{[]int{1, 1, 1, -1}, nil},
		{[]int{-1, -1, -1, 1, 1, 1}, nil},
	} {
		w, e := g.First(c.word...)
		if c.first == nil {
			wantNoWord(t, "First", w, e, api.ErrNone)
		} else {
			wantWord(t, "First", w, e, c.first...)
		}
	}
	w, e := made(t, shift()).First(1)
	wantNoWord(t, "First of a new group", w, e, api.ErrNone)
	w, e = made(t, still()).First(1, -1, -1)
	wantWord(t, "First of nothing", w, e)
}

// P17.4: letters that are none ahead of too many letters, these ahead of the
// rest.
func TestWordsRefuse(t *testing.T) {
	for _, c := range groups() {
		g := grown(t, 2, c.maps...)
		for _, letter := range wrongLetters(len(c.maps)) {
			for _, n := range []int{1, 4, api.MaxList, api.MaxList + 1} {
				for _, place := range []int{0, n / 2, n - 1} {
					word := slices.Repeat([]int{1}, n)
					word[place] = letter
					m, e := g.Of(word...)
					wantNoMap(t, c.name+": Of a wrong letter", m, e, api.ErrArg)
					w, e := g.First(word...)
					wantNoWord(t, c.name+": First of a wrong letter", w, e, api.ErrArg)
				}
			}
		}
		if len(c.maps) == 0 {
			continue
		}
		for _, n := range []int{api.MaxList + 1, 1 << 17} {
			word := slices.Repeat([]int{1}, n)
			m, e := g.Of(word...)
			wantNoMap(t, c.name+": Of too many", m, e, api.ErrLong)
			w, e := g.First(word...)
			wantNoWord(t, c.name+": First of too many", w, e, api.ErrLong)
		}
	}
	g := made(t, oneWay())
	m, e := g.Of(slices.Repeat([]int{-1}, api.MaxList+1)...)
	wantNoMap(t, "too many ahead of too big", m, e, api.ErrLong)
	w, e := g.First(slices.Repeat([]int{-1}, api.MaxList+1)...)
	wantNoWord(t, "too many ahead of none", w, e, api.ErrLong)
}

// P17.4: as many letters as may be.
func TestWordsAtTheBound(t *testing.T) {
	g := grown(t, 2, shift())
	m, e := g.Of(slices.Repeat([]int{1}, api.MaxList)...)
	wantMap(t, "Of", m, e, slide(in(api.MaxList, 0)))
	w, e := g.First(slices.Repeat([]int{1, 1, -1, -1, -1, -1, 1, 1}, api.MaxList/8)...)
	wantWord(t, "First", w, e)
	w, e = g.First(append(slices.Repeat([]int{1, -1}, api.MaxList/2-1), -1, -1)...)
	wantWord(t, "First", w, e, -1, -1)
	w, e = g.First(slices.Repeat([]int{1}, api.MaxList)...)
	wantNoWord(t, "First", w, e, api.ErrNone)
	g = made(t, slides(api.MaxMaps)...)
	m, e = g.Of(api.MaxMaps, -api.MaxMaps, api.MaxMaps)
	wantMap(t, "Of the last letter", m, e, slide(in(api.MaxMaps, 0)))
	m, e = g.Of(1, math.MinInt)
	wantNoMap(t, "Of no letter", m, e, api.ErrArg)
}

// P17.4: what the last letters make together is bound, and each letter's own
// map; what stands ahead of them is not.
func TestOfTooBig(t *testing.T) {
	g := made(t, tall(), shift())
	for _, word := range [][]int{{1, 1}, {-1, 1, 1}, {1, -1, -1}, {-1, -1, 1, 1}, {2, 1, 1}, {1, -1, 1, 1}} {
		m, e := g.Of(word...)
		wantNoMap(t, "Of", m, e, api.ErrBig)
	}
	for _, word := range [][]int{{1}, {-1}, {1, -1}, {-1, 1}, {1, 1, -1}, {1, 1, -1, -1, 1}, {2, -2, 1}} {
		m, e := g.Of(word...)
		if want := wordMap([]chart{tall(), shift()}, word); want.fits() {
			wantMap(t, "Of", m, e, want)
		} else {
			wantNoMap(t, "Of", m, e, api.ErrBig)
		}
	}
	g = grown(t, 1, tall())
	w, e := g.First(1, -1, 1)
	wantWord(t, "First", w, e, 1)
	w, e = g.First(1, 1, -1)
	wantNoWord(t, "First by way of what is too big", w, e, api.ErrNone)
	g = made(t, oneWay(), shift())
	m, e := g.Of(1)
	wantMap(t, "Of", m, e, oneWay())
	for _, word := range [][]int{{-1}, {1, -1}, {-1, 1}, {2, -1, 1, -2}} {
		m, e = g.Of(word...)
		wantNoMap(t, "Of a letter that is too big", m, e, api.ErrBig)
		w, e = g.First(word...)
		wantNoWord(t, "First of a letter that is too big", w, e, api.ErrNone)
	}
}
