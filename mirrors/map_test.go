package mirrors_test

import (
	"math/big"
	"math/rand"
	"slices"
	"testing"

	"tracery/api"
)

// fitsAlong tells whether none of the word's beginnings is too big.
func (g glass) fitsAlong(word []int) bool {
	m := still()
	for _, k := range word {
		if m = g.rings[max(k, -k)-1].turning().behind(m); !m.fits() {
			return false
		}
	}
	return true
}

// P19.4
func TestMap(t *testing.T) {
	r := rand.New(rand.NewSource(19))
	for _, g := range glasses() {
		m := g.mirrors(t)
		x, e := m.Map()
		want(t, g.name+": the empty word", x, e, still().mob())
		for range 60 {
			var word []int
			for range r.Intn(12) {
				if n := len(g.rings); n > 0 {
					word = append(word, (1+r.Intn(n))*(1-2*r.Intn(2)))
				}
			}
			x, e := m.Map(word...)
			want(t, g.name, x, e, g.does(word...).mob())
		}
		for _, k := range wrongLetters(len(g.rings)) {
			for _, word := range [][]int{{k}, {k, k, k}} {
				x, e := m.Map(word...)
				wantNone(t, g.name+": no letter", x, e, api.ErrArg)
			}
		}
	}
	m := modular().mirrors(t)
	for _, k := range wrongLetters(3) {
		x, e := m.Map(1, -2, 3, k, 1)
		wantNone(t, "no letter in the midst", x, e, api.ErrArg)
	}
	x, e := m.Map(1, 2)
	want(t, "1 first", x, e, slide(in(1, 0)).mob())
	x, e = m.Map(-2, -1)
	want(t, "2 first", x, e, slide(in(-1, 0)).mob())
}

// P19.4: as many letters as may be.
func TestMapToTheBound(t *testing.T) {
	m := modular().mirrors(t)
	long := slices.Repeat([]int{1, -2}, api.MaxList/2)
	x, e := m.Map(long...)
	want(t, "as long as may be", x, e, slide(in(api.MaxList/2, 0)).mob())
	x, e = m.Map(append(long, 1)...)
	wantNone(t, "one more", x, e, api.ErrLong)
	for _, k := range []int{0, 4, -4, 65, -65} {
		x, e = m.Map(append(long, k)...)
		wantNone(t, "one more, and no letter", x, e, api.ErrArg)
		x, e = m.Map(append([]int{k}, long...)...)
		wantNone(t, "one more, and no letter ahead", x, e, api.ErrArg)
	}
	x, e = glass{}.mirrors(t).Map(make([]int, api.MaxList+1)...)
	wantNone(t, "no mirrors", x, e, api.ErrArg)
	big := glass{[]ring{beside(rat(0, 1)), beside(ofInt(share(3)))}, []int{1, 1}}.mirrors(t)
	x, e = big.Map(append(long, 1)...)
	wantNone(t, "one more, and too big", x, e, api.ErrLong)
}

// P19.4: words that are too big, or whose first letters are.
func TestMapTooBig(t *testing.T) {
	seen := tally{}
	for _, c := range []struct {
		name string
		glass
	}{
		{"lines", glass{[]ring{beside(rat(0, 1)), beside(ofInt(share(6)))}, []int{1, 1}}},
		{"lines and a circle", glass{[]ring{beside(ofInt(share(4))), unit(), beside(new(big.Rat))}, []int{1, 1, 1}}},
		{"lines near the bound", glass{[]ring{beside(ofInt(share(5))), beside(rat(1, 3)), beside(opposite(ofInt(share(7))))}, []int{1, 1, -1}}},
		{"long circles", glass{[]ring{about(flat(under(twos(1500))), rat(1, 1)), about(flat(under(twos(1501))), rat(1, 3)), unit()}, []int{1, 1, 1}}},
	} {
		m, n := c.mirrors(t), len(c.rings)
		words := [][]int{{}}
		for i := 0; i < len(words) && len(words[i]) < 6; i++ {
			word := words[i]
			for k := 1; k <= n; k++ {
				words = append(words, append(slices.Clone(word), k))
			}
			x, e := m.Map(word...)
			switch {
			case c.fitsAlong(word):
				want(t, c.name, x, e, c.does(word...).mob())
				seen["fits"]++
			case c.does(word...).fits():
				wantNone(t, c.name+": the first letters", x, e, api.ErrBig)
				seen["just the first letters are too big"]++
			default:
				wantNone(t, c.name, x, e, api.ErrBig)
				seen["too big"]++
			}
		}
	}
	seen.least(t, 10, "fits", "too big", "just the first letters are too big")
}

// P19.4
func TestOrder(t *testing.T) {
	seen := map[int]int{}
	for _, g := range glasses() {
		m := g.mirrors(t)
		for j := 1; j <= m.Len(); j++ {
			for k := 1; k <= m.Len(); k++ {
				n, e := m.Order(j, k)
				want(t, g.name+": Order", n, e, g.order(j, k))
				seen[n]++
			}
			for _, k := range wrongNumbers(m.Len()) {
				n, e := m.Order(j, k)
				wantNone(t, g.name+": Order", n, e, api.ErrArg)
				n, e = m.Order(k, j)
				wantNone(t, g.name+": Order", n, e, api.ErrArg)
			}
		}
		for _, k := range wrongNumbers(m.Len()) {
			n, e := m.Order(k, k)
			wantNone(t, g.name+": Order", n, e, api.ErrArg)
		}
	}
	for _, n := range []int{0, 1, 2, 3, 4, 6} {
		if seen[n] < 2 {
			t.Errorf("the order %d: seen just %d times", n, seen[n])
		}
	}
}

// P19.4: Order answers, however long what is put together gets.
func TestOrderOfLongNumbers(t *testing.T) {
	seen := tally{}
	wide := new(big.Int).Sub(twos(2500), big.NewInt(1))
	for _, shown := range []chart{
		slide(flat(ofInt(twos(4000)))),
		stretch(num{ofInt(wide), rat(1, 7)}),
		{num{under(wide), rat(2, 3)}, in(1, 0), in(0, 1), in(1, 0), false},
		{in(1, 0), num{ofInt(wide), rat(2, 3)}, in(0, 1), num{rat(1, 1), ofInt(twos(2500))}, true},
		{in(1, 0), num{ofInt(twos(2300)), rat(3, 2)}, in(1, 0), num{ofInt(wide), rat(1, 5)}, false},
	} {
		for _, g := range glasses() {
			h := g.seen(shown)
			if slices.ContainsFunc(h.rings, func(k ring) bool { return !k.fits() || !k.turning().fits() }) {
				seen["no such mirrors"]++
				continue
			}
			m := h.mirrors(t)
			for j := 1; j <= m.Len(); j++ {
				for k := 1; k <= m.Len(); k++ {
					n, e := m.Order(j, k)
					want(t, g.name+": Order", n, e, g.order(j, k))
					if !h.does(j, k).fits() {
						seen[[]string{"0, too big", "1", "2, too big", "3, too big", "4, too big", "", "6, too big"}[n]]++
					}
				}
			}
		}
	}
	seen.least(t, 2, "0, too big", "2, too big", "3, too big", "4, too big", "6, too big")
}
