package grid_test

import (
	"math"
	"slices"
	"testing"

	"tracery/api"
	"tracery/grid"
)

func TestPoint(t *testing.T) { // P26.2
	for _, g := range nets() {
		made := g.grid(t)
		for j := range g.h + 1 {
			for i := range g.w + 1 {
				got, e := made.Point(i, j)
				want(t, "Point", got, e, g.at(i, j).point())
			}
		}
		for j := -1; j <= g.h+1; j++ {
			for _, i := range outside(g.w) {
				got, e := made.Point(i, j)
				wantNone(t, "a point beyond", got, e, api.ErrNone)
			}
		}
		for i := -1; i <= g.w+1; i++ {
			for _, j := range outside(g.h) {
				got, e := made.Point(i, j)
				wantNone(t, "a point beyond", got, e, api.ErrNone)
			}
		}
	}
}

// Numbers that would lead back into the list of points, if they were not asked.
func TestPointsBeyondOneSide(t *testing.T) { // P26.2, P26.3
	made := laid(in(0, 0), in(1, 0), in(0, 1), 3, 3).grid(t)
	for _, x := range [][2]int{{-1, 1}, {4, 1}, {-4, 2}, {8, 0}, {0, 4}, {3, -1}, {-4, 4}, {4, -1}, {math.MinInt, 1}, {1 << 62, 1}, {0, 1 << 62}, {1, math.MinInt}} {
		got, e := made.Point(x[0], x[1])
		wantNone(t, "a point beyond one side", got, e, api.ErrNone)
		corners, e := made.Corners(x[0], x[1])
		wantNone(t, "a square beyond one side", corners, e, api.ErrNone)
	}
}

func TestSize(t *testing.T) { // P26.2
	for w := 1; w <= 64; w += 9 {
		for h := 1; h <= 64; h += 21 {
			made, e := grid.New(in(0, 0).gauss(), in(1, 0).gauss(), in(0, 1).gauss(), w, h)
			if gotW, gotH := made.Size(); gotW != w || gotH != h || e != api.OK {
				t.Errorf("%d by %d is %d by %d, %v", w, h, gotW, gotH, e)
			}
		}
	}
}

type told struct {
	place [2]int
	point api.Point
}

func (g lattice) told() []told {
	var l []told
	for j := range g.h + 1 {
		for i := range g.w + 1 {
			l = append(l, told{[2]int{i, j}, g.at(i, j).point()})
		}
	}
	return l
}

// firsts takes at most so many points, and leaves then.
func firsts(made *grid.Grid, most int) []told {
	var l []told
	if most == 0 {
		return nil
	}
	for place, p := range made.All() {
		if l = append(l, told{place, p}); len(l) == most {
			break
		}
	}
	return l
}

func TestAll(t *testing.T) { // P26.2
	for _, g := range nets() {
		made, wanted := g.grid(t), g.told()
		for _, most := range []int{1, 2, len(wanted) - 1, len(wanted), len(wanted) + 1} {
			if got := firsts(made, most); !slices.Equal(got, wanted[:min(most, len(wanted))]) {
				t.Fatalf("the first %d points of %d are others", most, len(wanted))
			}
		}
	}
}

func TestAllAgain(t *testing.T) { // P26.2
	g := laid(in(1, 2), in(1, 1), parts(0, 1, 1, 3), 3, 2)
	all, wanted := g.grid(t).All(), g.told()
	for range 3 {
		n := 0
		for place, p := range all { // left early, and gone over again
			if (told{place, p}) != wanted[n] {
				t.Fatalf("%v is %s", place, brief(p))
			}
			if n++; n == 5 {
				break
			}
		}
	}
	n := 0
	for place, p := range all { // within itself
		if (told{place, p}) != wanted[n] {
			t.Fatalf("%v is %s", place, brief(p))
		}
		m := 0
		for place, p := range all {
			if (told{place, p}) != wanted[m] {
				t.Fatalf("%v within is %s", place, brief(p))
			}
			m++
		}
		if n++; m != len(wanted) {
			t.Fatalf("%d points within", m)
		}
	}
	if n != len(wanted) {
		t.Fatalf("%d points", n)
	}
	n = 0
	all(func([2]int, api.Point) bool { // what says no is not asked again
		n++
		return n < 4
	})
	if n != 4 {
		t.Errorf("asked %d times", n)
	}
}

func TestAllOfNothing(t *testing.T) { // P26.2
	for _, made := range []*grid.Grid{nil, {}} {
		all := made.All()
		if all == nil {
			t.Fatal("no iterator")
		}
		for place, p := range all {
			t.Errorf("%v is %s", place, brief(p))
		}
	}
}
