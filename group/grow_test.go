package group_test

import (
	"math"
	"slices"
	"strconv"
	"testing"

	"tracery/api"
	"tracery/group"
)

func slides(n int) []chart {
	var l []chart
	for k := range n {
		l = append(l, slide(in(int64(k+1), 0)))
	}
	return l
}

// P17.1: the examples of New and Grow.
func TestGrowExamples(t *testing.T) {
	g := grown(t, 9, quarter())
	m, e := g.Member(3)
	wantMember(t, "the fourth of i", m, e, stretch(in(-1, 0)), 1, 1)
	if g.Len() != 4 || !g.Whole() || g.Sphere(1) != 2 || g.Sphere(2) != 1 || g.Depth() != 9 {
		t.Errorf("i grown to 9 is %+v", stateOf(g))
	}
	g = grown(t, 2, shift())
	m, e = g.Member(2)
	wantMember(t, "the third of s", m, e, slide(in(-1, 0)), -1)
	m, e = g.Member(4)
	wantMember(t, "the fifth of s", m, e, slide(in(-2, 0)), -1, -1)
	if g.Len() != 5 || g.Whole() {
		t.Errorf("s grown to 2 has %d, whole %v", g.Len(), g.Whole())
	}
	g = grown(t, 5)
	if g.Len() != 1 || !g.Whole() || g.Letters() != 0 {
		t.Errorf("of none there are %d, whole %v", g.Len(), g.Whole())
	}
	wantError(t, "s grown to 2048", made(t, shift()).Grow(2048), api.ErrElems)
}

// P17.1: a new group has the one element that moves nothing.
func TestNewIsGrownToNothing(t *testing.T) {
	for _, c := range groups() {
		g := made(t, c.maps...)
		m, e := g.Member(0)
		wantMember(t, c.name, m, e, still())
		if g.Depth() != 0 || g.Len() != 1 || g.Letters() != len(c.maps) || g.Sphere(0) != 1 || g.Sphere(1) != 0 {
			t.Errorf("%s: depth %d, %d elements, %d letters", c.name, g.Depth(), g.Len(), g.Letters())
		}
	}
}

// P17.1: a map that may not be, at each place, ahead of too many maps.
func TestNewRefuses(t *testing.T) {
	many := mobs(slides(api.MaxMaps + 1))
	for k, m := range wrongMaps() {
		for _, n := range []int{1, 3, api.MaxMaps, api.MaxMaps + 1} {
			for _, place := range []int{0, n / 2, n - 1} {
				l := slices.Clone(many[:n])
				l[place] = m
				if g, e := group.New(l...); g != nil || e != api.ErrArg {
					t.Fatalf("the wrong map %d at %d of %d: %v, %v", k, place, n, g, e)
				}
			}
		}
	}
	if g, e := group.New(many...); g != nil || e != api.ErrLong {
		t.Errorf("one map too many: %v, %v", g, e)
	}
	long := slices.Repeat(many, 400)
	if g, e := group.New(long...); g != nil || e != api.ErrLong {
		t.Errorf("far too many maps: %v, %v", g, e)
	}
	long[len(long)-1].C = in(2, 0).gauss()
	if g, e := group.New(long...); g != nil || e != api.ErrArg {
		t.Errorf("far too many maps, the last one wrong: %v, %v", g, e)
	}
	if g, e := group.New(many[:api.MaxMaps]...); e != api.OK || g.Letters() != api.MaxMaps {
		t.Errorf("as many maps as may be: %v", e)
	}
}

// P17.1: the elements are the first words' of all words there are, in order.
func TestGrowAgainstAllWords(t *testing.T) {
	for _, c := range groups() {
		all := firsts(c.maps, c.deep)
		for n := 0; n <= c.deep; n++ {
			g := grown(t, n, c.maps...)
			deep := 0
			for deep < len(all) && len(all[deep].word) <= n {
				deep++
			}
			if g.Len() != deep || g.Depth() != n {
				t.Fatalf("%s, grown to %d: %d elements, want %d", c.name, g.Depth(), g.Len(), deep)
			}
			for i, x := range all[:deep] {
				m, e := g.Member(i)
				wantMember(t, c.name+", "+strconv.Itoa(i), m, e, x.m, x.word...)
			}
		}
	}
}

// P17.1: numbers that are refused; what is reached already; to less it never is.
func TestGrowNumbers(t *testing.T) {
	for _, g := range []*group.Group{made(t), made(t, shift()), grown(t, 3, quarter()), grown(t, 4, swap(), shift())} {
		was := stateOf(g)
		for _, n := range []int{-1, -7, math.MinInt, api.MaxList + 1, math.MaxInt} {
			wantError(t, "Grow of "+strconv.Itoa(n), g.Grow(n), api.ErrArg)
		}
		for n := g.Depth(); n >= 0; n-- {
			wantError(t, "Grow of less", g.Grow(n), api.OK)
		}
		if !stateOf(g).same(was) {
			t.Errorf("a group of depth %d is grown to %d", was.depth, g.Depth())
		}
	}
	for _, l := range [][]chart{nil, {still()}, {quarter()}, {third()}, {eighth()}} {
		g := grown(t, api.MaxList, l...)
		if g.Depth() != api.MaxList || !g.Whole() || g.Sphere(api.MaxList) != 0 {
			t.Errorf("grown to %d", g.Depth())
		}
		wantError(t, "one more", g.Grow(api.MaxList+1), api.ErrArg)
	}
}

// P17.1: MaxElems elements go, one more does not; nothing has changed then.
func TestGrowToTheBound(t *testing.T) {
	g := grown(t, 1024, shift(), bar())
	if g.Len() != api.MaxElems || g.Sphere(1024) != 4 || g.Whole() {
		t.Fatalf("%d elements, %d of the last depth", g.Len(), g.Sphere(1024))
	}
	was := stateOf(g)
	for _, n := range []int{1025, 1026, api.MaxList} {
		wantError(t, "past the bound", g.Grow(n), api.ErrElems)
	}
	if !stateOf(g).same(was) {
		t.Error("what is refused has changed the group")
	}
	wantError(t, "at the bound", g.Grow(1024), api.OK)
	g = made(t, shift())
	was = stateOf(g)
	wantError(t, "all at once", g.Grow(2048), api.ErrElems)
	if !stateOf(g).same(was) {
		t.Error("what is refused has changed the new group")
	}
	if _, e := g.Find(shift().mob()); e != api.ErrNone {
		t.Errorf("what is refused is found: %v", e)
	}
	wantError(t, "then less", g.Grow(2047), api.OK)
	if g.Len() != 4095 || g.Sphere(2047) != 2 {
		t.Errorf("%d elements", g.Len())
	}
	m, e := g.Member(4093)
	wantMember(t, "the last but one", m, e, slide(in(2047, 0)), slices.Repeat([]int{1}, 2047)...)
	i, e := g.Find(slide(in(-2000, 0)).mob())
	wantNumber(t, "Find", i, e, 4000)
}

// P17.1: as many maps as may be, many of whose words make the same.
func TestGrowWithManyMaps(t *testing.T) {
	g := made(t, slides(api.MaxMaps)...)
	for n := 1; n <= 31; n++ {
		wantError(t, "Grow", g.Grow(n), api.OK)
		if g.Len() != 128*n+1 || g.Sphere(n) != 128 {
			t.Fatalf("grown to %d: %d elements", n, g.Len())
		}
	}
	wantError(t, "Grow", g.Grow(32), api.ErrElems)
	i, e := g.Find(slide(in(-1984, 0)).mob())
	m, _ := g.Member(i)
	wantMember(t, "the last one", m, e, slide(in(-1984, 0)), slices.Repeat([]int{-64}, 31)...)
	same := grown(t, 31, slices.Repeat([]chart{shift()}, api.MaxMaps)...)
	if same.Len() != 63 {
		t.Errorf("of one map, often: %d", same.Len())
	}
	m, e = same.Member(62)
	wantMember(t, "of one map, often", m, e, slide(in(-31, 0)), slices.Repeat([]int{-1}, 31)...)
}

// P17.1: elements that are too big, and which of the errors comes first.
func TestGrowTooBig(t *testing.T) {
	often := func(n int64) chart { return slide(flat(ofInt(share(n)))) }
	for _, c := range []struct {
		name string
		maps []chart
		fits int
		e    api.Errno
	}{
		{"as big as may be", []chart{tall()}, 1, api.ErrBig},
		{"a slide as big as may be", []chart{often(1)}, 1, api.ErrBig},
		{"twice", []chart{often(2)}, 2, api.ErrBig},
		{"bytes", []chart{stretch(in(256, 0))}, 1023, api.ErrBig},
		{"an inverse first", []chart{stretch(in(3, 4))}, 1764, api.ErrBig},
		{"no inverse", []chart{oneWay()}, 0, api.ErrBig},
		{"no inverse behind others", []chart{shift(), swap(), oneWay()}, 0, api.ErrBig},
		{"no inverse of a slide", []chart{{a: flat(under(top())), b: flat(ofInt(top())), c: in(0, 0), d: in(1, 0)}}, 0, api.ErrBig},
		{"too big ahead of too many", []chart{often(2047)}, 2047, api.ErrBig},
		{"too many ahead of too big", []chart{often(2048)}, 2047, api.ErrElems},
		{"the last one too big", []chart{often(1023), bar()}, 1023, api.ErrBig},
		{"one too many, and too big", []chart{often(1024), bar()}, 1024, api.ErrElems},
	} {
		g := made(t, c.maps...)
		for _, n := range []int{c.fits + 1, api.MaxList} {
			wantError(t, c.name+", at once", g.Grow(n), c.e)
		}
		if g.Len() != 1 || g.Depth() != 0 {
			t.Errorf("%s: grown to %d, %d elements", c.name, g.Depth(), g.Len())
		}
		wantError(t, c.name+", as far as it goes", g.Grow(c.fits), api.OK)
		n := g.Len()
		last, _ := g.Member(n - 1)
		wantError(t, c.name+", one further", g.Grow(c.fits+1), c.e)
		if still, _ := g.Member(n - 1); g.Len() != n || g.Depth() != c.fits || !sameMember(still, last) || g.Whole() {
			t.Errorf("%s: %d elements, not %d, depth %d", c.name, g.Len(), n, g.Depth())
		}
	}
}
