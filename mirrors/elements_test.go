package mirrors_test

import (
	"math/big"
	"slices"
	"testing"

	"tracery/api"
)

// P19.5
func TestElements(t *testing.T) {
	for _, g := range glasses() {
		m := g.mirrors(t)
		for most := range g.deep + 1 {
			all, e := g.elements(most)
			wantError(t, g.name, e, api.OK)
			maps, firsts, e := m.Elements(most)
			wantElements(t, g.name, maps, firsts, e, all, api.OK)
		}
		for _, most := range wrongMosts() {
			maps, firsts, e := m.Elements(most)
			wantElements(t, g.name, maps, firsts, e, nil, api.ErrArg)
		}
	}
}

// P19.5: the examples, and words that are left out.
func TestElementsByHand(t *testing.T) {
	for _, c := range []struct {
		name string
		glass
		most  int
		words [][]int
	}{
		{"no mirror", glass{}, api.MaxList, [][]int{{}}},
		{"none of them", modular(), 0, [][]int{{}}},
		{"one letter", modular(), 1, [][]int{{}, {1}, {2}, {3}}},
		{"3 1 does what 1 3 does", modular(), 2, [][]int{{}, {1}, {2}, {3}, {1, 2}, {1, 3}, {2, 1}, {2, 3}, {3, 2}}},
		{"the same one twice", glass{[]ring{unit(), unit()}, []int{1, 1}}, api.MaxList, [][]int{{}, {1}}},
		{"a second one that is the first one", glass{[]ring{unit(), unit(), beside(rat(0, 1))}, []int{1, -1, 1}}, api.MaxList, [][]int{{}, {1}, {3}, {1, 3}}},
		{"at a third", pair(unit(), beside(rat(1, 2))), api.MaxList, [][]int{{}, {1}, {2}, {1, 2}, {2, 1}, {1, 2, 1}}},
	} {
		maps, firsts, e := c.mirrors(t).Elements(c.most)
		if len(maps) != len(c.words) || !slices.EqualFunc(firsts, c.words, slices.Equal) || e != api.OK {
			t.Fatalf("%s: %v, %v, want %v", c.name, firsts, e, c.words)
		}
		for i, w := range c.words {
			if maps[i] != c.does(w...).mob() {
				t.Errorf("%s: %v does something else", c.name, w)
			}
		}
	}
}

// P19.5: groups that end.
func TestElementsOfGroupsThatEnd(t *testing.T) {
	real, slant := level(new(big.Rat)), ringed(0, 1, 1, 0)
	for _, c := range []struct {
		name string
		glass
		count, longest int
	}{
		{"at a quarter", pair(real, slant), 8, 4},
		{"at a sixth", pair(beside(rat(3, 2)), about(in(0, 0), rat(3, 1))), 12, 6},
		{"a cube's", glass{[]ring{slant, ringed(1, 0, 1, -1), unit()}, []int{1, 1, 1}}, 48, 9},
		{"a cube's, often", glass{slices.Repeat([]ring{unit(), slant, ringed(1, 0, 1, -1)}, 21), slices.Repeat([]int{1, 1, 1}, 21)}, 48, 9},
	} {
		m := c.mirrors(t)
		for _, most := range []int{c.longest, c.longest + 1, api.MaxList} {
			maps, firsts, e := m.Elements(most)
			if len(maps) != c.count || len(firsts[c.count-1]) != c.longest || e != api.OK {
				t.Errorf("%s: %d elements, %v", c.name, len(maps), e)
			}
		}
		if maps, _, _ := m.Elements(c.longest - 1); len(maps) >= c.count {
			t.Errorf("%s: %d elements with a letter less", c.name, len(maps))
		}
	}
}

// P19.5: MaxElems elements go, one more does not.
func TestElementsToTheBound(t *testing.T) {
	across := rows(2, rat(0, 1), rat(1, 1)).with(level(new(big.Rat)), 1)
	for _, c := range []struct {
		name string
		glass
		most, count int
	}{
		{"two lines", rows(2, rat(0, 1), rat(1, 1)), 2047, 4095},
		{"two lines and one across", across, 1024, 4096},
		{"many loose ones", loose(63), 2, 3970},
		{"as many loose ones as may be", loose(64), 1, 65},
	} {
		m := c.mirrors(t)
		maps, firsts, e := m.Elements(c.most)
		if len(maps) != c.count || len(firsts) != c.count || e != api.OK {
			t.Fatalf("%s: %d elements, %v", c.name, len(maps), e)
		}
		last := firsts[c.count-1]
		if len(last) != c.most || maps[c.count-1] != c.does(last...).mob() {
			t.Errorf("%s: the last one has %d letters", c.name, len(last))
		}
		for _, most := range []int{c.most + 1, api.MaxList} {
			maps, firsts, e = m.Elements(most)
			wantElements(t, c.name, maps, firsts, e, nil, api.ErrMany)
		}
	}
}

// P19.5: many mirrors, many of whose words do the same.
func TestElementsOfManyMirrors(t *testing.T) {
	g := rows(api.MaxMaps, rat(0, 1), rat(1, 1))
	m := g.mirrors(t)
	all, e := g.elements(3)
	wantError(t, "rows", e, api.OK)
	maps, firsts, e := m.Elements(3)
	wantElements(t, "rows", maps, firsts, e, all, api.OK)
	// Shifts by up to 126 either way, and turnings as far apart: of each length but
	// the first two 126 are new.
	for most, count := range map[int]int{1: 65, 2: 191, 31: 3845, 32: 3971} {
		maps, firsts, e = m.Elements(most)
		if len(maps) != count || len(firsts[count-1]) != most || e != api.OK {
			t.Errorf("rows: %d elements of %d letters, %v", len(maps), most, e)
		}
	}
	maps, firsts, e = m.Elements(33)
	wantElements(t, "rows", maps, firsts, e, nil, api.ErrMany)
	turned := glass{}
	z := in(1, 0)
	for range api.MaxMaps {
		turned = turned.with(ring{new(big.Rat), z, new(big.Rat)}.formed(), 1)
		z = z.times(in(2, 1))
	}
	all, e = turned.elements(2)
	wantError(t, "lines about 0", e, api.OK)
	m = turned.mirrors(t)
	maps, firsts, e = m.Elements(2)
	wantElements(t, "lines about 0", maps, firsts, e, all, api.OK)
	maps, firsts, e = m.Elements(api.MaxList)
	wantElements(t, "lines about 0", maps, firsts, e, nil, api.ErrMany)
}

// P19.5: elements that are too big, and which of the errors comes first.
func TestElementsTooBig(t *testing.T) {
	real := level(new(big.Rat))
	d := new(big.Int).Lsh(new(big.Int).Rsh(share(1024), 3), 3)
	shifted := func(by *big.Rat) glass { return rows(2, times(ofInt(d), by), ofInt(d)).with(real, 1) }
	for _, c := range []struct {
		name string
		glass
		fits int
		e    api.Errno
	}{
		{"as big as may be", rows(2, rat(0, 1), times(ofInt(top()), rat(1, 2))), 2, api.ErrBig},
		{"twice", rows(2, rat(0, 1), ofInt(share(4))), 4, api.ErrBig},
		{"to one side first", rows(2, times(ofInt(share(9)), rat(-3, 2)), ofInt(share(9))), 8, api.ErrBig},
		{"a circle in a circle", pair(unit(), about(in(0, 0), rat(1<<20, 1))), 818, api.ErrBig},
		{"too many ahead of too big", rows(2, rat(0, 1), ofInt(share(2050))), 2047, api.ErrMany},
		{"too big ahead of too many", rows(2, rat(0, 1), ofInt(share(2046))), 2046, api.ErrBig},
		{"one too many, and too big", shifted(rat(-1, 4)), 1024, api.ErrBig},
		{"one too many, the next one too big", shifted(rat(0, 1)), 1024, api.ErrMany},
	} {
		m := c.mirrors(t)
		maps, firsts, e := m.Elements(c.fits)
		if len(maps) == 0 || len(maps) != len(firsts) || e != api.OK {
			t.Fatalf("%s: %d elements, %v", c.name, len(maps), e)
		}
		for _, most := range []int{c.fits + 1, api.MaxList} {
			maps, firsts, e = m.Elements(most)
			wantElements(t, c.name, maps, firsts, e, nil, c.e)
		}
	}
}

// P19.5: the same by all words, near the bound.
func TestElementsNearTheBound(t *testing.T) {
	seen := tally{}
	for n := int64(3); n < 9; n++ {
		for _, g := range []glass{
			rows(3, ofInt(share(5*n)), ofInt(share(2*n))),
			pair(beside(ofInt(share(n))), unit()).with(beside(rat(0, 1)), 1),
			pair(about(flat(under(twos(uint(300*n)))), rat(1, n)), about(flat(under(twos(uint(299*n)))), rat(2, 1))),
		} {
			m := g.mirrors(t)
			for most := range 6 {
				all, wanted := g.elements(most)
				maps, firsts, e := m.Elements(most)
				wantElements(t, "near the bound", maps, firsts, e, all, wanted)
				seen[wanted.Error()]++
			}
		}
	}
	seen.least(t, 10, api.OK.Error(), api.ErrBig.Error())
}
