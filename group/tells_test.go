package group_test

import (
	"math"
	"testing"

	"tracery/api"
)

// P17.2: each element's number is found by its map, and by no other map.
func TestFind(t *testing.T) {
	for _, c := range groups() {
		all := firsts(c.maps, c.deep)
		for n := 0; n < c.deep; n++ {
			g := grown(t, n, c.maps...)
			for i, x := range all {
				got, e := g.Find(x.m.mob())
				if len(x.word) <= n {
					wantNumber(t, c.name, got, e, i)
				} else {
					wantNoNumber(t, c.name, got, e, api.ErrNone)
				}
			}
			got, e := g.Find(stretch(in(7, 3)).mob())
			wantNoNumber(t, c.name+", a strange map", got, e, api.ErrNone)
		}
	}
}

// P17.2: maps that may not be, numbers of no element.
func TestFindAndMemberRefuse(t *testing.T) {
	for _, c := range groups() {
		g := grown(t, 3, c.maps...)
		for _, m := range wrongMaps() {
			got, e := g.Find(m)
			wantNoNumber(t, c.name+", a wrong map", got, e, api.ErrArg)
		}
		for _, i := range wrongNumbers(g.Len()) {
			if m, e := g.Member(i); m.Map != (api.Mob{}) || m.Word != nil || e != api.ErrNone {
				t.Errorf("%s: Member of %d is %v, %v", c.name, i, m.Word, e)
			}
		}
	}
}

// P17.2: Sphere counts, at any number.
func TestSphere(t *testing.T) {
	for _, c := range groups() {
		all := firsts(c.maps, c.deep)
		g := grown(t, c.deep, c.maps...)
		for d := -2; d <= c.deep+2; d++ {
			want := 0
			for _, x := range all {
				if len(x.word) == d {
					want++
				}
			}
			if got := g.Sphere(d); got != want {
				t.Errorf("%s: %d of depth %d, want %d", c.name, got, d, want)
			}
		}
		for _, d := range []int{-1, math.MinInt, math.MaxInt, math.MaxInt - 1, api.MaxList, api.MaxList + 1} {
			if got := g.Sphere(d); got != 0 {
				t.Errorf("%s: %d of depth %d", c.name, got, d)
			}
		}
	}
}

// P17.2: a group is whole from its last element on, not from the depth on in
// which there is none.
func TestWhole(t *testing.T) {
	for _, c := range []struct {
		maps []chart
		from int
		n    int
	}{
		{nil, 0, 1},
		{[]chart{still()}, 0, 1},
		{[]chart{still(), still()}, 0, 1},
		{[]chart{swap()}, 1, 2},
		{[]chart{third()}, 1, 3},
		{[]chart{quarter()}, 2, 4},
		{[]chart{quarter(), stretch(in(-1, 0))}, 1, 4},
		{[]chart{eighth()}, 4, 8},
		{[]chart{quarter(), bar()}, 3, 8},
		{[]chart{swap(), stretch(in(-1, 0))}, 2, 4},
		{[]chart{quarter(), charted(1, 1, -1, 1)}, 0, 24},
		{[]chart{quarter(), charted(1, 1, -1, 1), bar()}, 0, 48},
	} {
		g := made(t, c.maps...)
		for n := range 8 {
			wantError(t, "Grow", g.Grow(n), api.OK)
			if got := g.Whole(); got != (g.Len() == c.n) {
				t.Errorf("of %d elements %d are told: whole %v", c.n, g.Len(), got)
			}
			if c.from > 0 && g.Whole() != (n >= c.from) {
				t.Errorf("whole at %d: %v", n, g.Whole())
			}
		}
	}
	for _, l := range [][]chart{{shift()}, {swap(), shift()}, {oneWay()}, {still(), oneWay()}, {tall()}} {
		g := made(t, l...)
		for n := range 6 {
			if g.Grow(n); g.Whole() {
				t.Errorf("whole with %d elements", g.Len())
			}
		}
	}
}

// P17.2, P17.6: of a group that is not there.
func TestNoGroup(t *testing.T) {
	for name, g := range nothings() {
		if g.Letters() != 0 || g.Depth() != 0 || g.Len() != 0 || g.Sphere(0) != 0 || g.Sphere(1) != 0 || g.Whole() || g.Copy() != nil {
			t.Errorf("%s tells something", name)
		}
		for _, n := range []int{-1, 0, 1, api.MaxList + 1} {
			wantError(t, name+": Grow", g.Grow(n), api.ErrNil)
			if m, e := g.Member(n); m.Map != (api.Mob{}) || m.Word != nil || e != api.ErrNil {
				t.Errorf("%s: Member is %v", name, e)
			}
			for _, letter := range []int{0, 1, -1, math.MinInt} {
				i, e := g.Step(n, letter)
				wantNoNumber(t, name+": Step", i, e, api.ErrNil)
			}
			l, e := g.Row(n)
			wantNoWord(t, name+": Row", l, e, api.ErrNil)
			i, e := g.Order(n)
			wantNoNumber(t, name+": Order", i, e, api.ErrNil)
		}
		for _, m := range []api.Mob{{}, still().mob(), shift().mob()} {
			i, e := g.Find(m)
			wantNoNumber(t, name+": Find", i, e, api.ErrNil)
		}
		for _, word := range [][]int{nil, {0}, {1}, make([]int, api.MaxList+1)} {
			m, e := g.Of(word...)
			wantNoMap(t, name+": Of", m, e, api.ErrNil)
			w, e := g.First(word...)
			wantNoWord(t, name+": First", w, e, api.ErrNil)
		}
		for i := range g.All() {
			t.Errorf("%s: All tells %d", name, i)
		}
		for _, p := range append(wrongPoints(), far().point(), at(in(1, 2)).point()) {
			for i := range g.Points(p) {
				t.Errorf("%s: Points tells %d", name, i)
			}
		}
	}
}
