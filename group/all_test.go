package group_test

import (
	"math/big"
	"slices"
	"testing"

	"tracery/api"
)

// P17.5: orders, and numbers of no element.
func TestOrder(t *testing.T) {
	for _, c := range groups() {
		g := grown(t, c.deep-1, c.maps...)
		for i, x := range firsts(c.maps, c.deep-1) {
			n, e := g.Order(i)
			wantNumber(t, c.name+": Order", n, e, x.m.order())
		}
		for _, i := range wrongNumbers(g.Len()) {
			n, e := g.Order(i)
			wantNoNumber(t, c.name+": Order", n, e, api.ErrNone)
		}
	}
}

// P17.5: All tells each element with its number, in order.
func TestAll(t *testing.T) {
	for _, c := range groups() {
		g := grown(t, c.deep, c.maps...)
		all := g.All()
		for range 2 {
			n := 0
			for i, m := range all {
				if i != n {
					t.Fatalf("%s: %d is told in %d's place", c.name, i, n)
				}
				n++
				if want, e := g.Member(i); e != api.OK || !sameMember(m, want) {
					t.Fatalf("%s: All's %d is %v, %v", c.name, i, m.Word, want.Word)
				}
			}
			if n != g.Len() {
				t.Fatalf("%s: %d of %d", c.name, n, g.Len())
			}
		}
	}
}

// P17.5: where each element sends a point.
func TestPoints(t *testing.T) {
	half := num{big.NewRat(1, 2), big.NewRat(-3, 7)}
	for _, c := range groups() {
		g := grown(t, c.deep-1, c.maps...)
		all := firsts(c.maps, c.deep-1)
		for _, p := range []spot{far(), at(in(0, 0)), at(in(1, 0)), at(in(-2, 1)), at(half)} {
			told := g.Points(p.point())
			for range 2 {
				n := 0
				for i, q := range told {
					if i != n || q != all[i].m.at(p).point() {
						t.Fatalf("%s: Points tells %d in %d's place, or another point", c.name, i, n)
					}
					n++
				}
				if n != len(all) {
					t.Fatalf("%s: %d points of %d", c.name, n, len(all))
				}
			}
		}
		for _, p := range wrongPoints() {
			for i := range g.Points(p) {
				t.Fatalf("%s: %d of a wrong point", c.name, i)
			}
		}
	}
}

// P17.5: images that are too big are left out, the others stay.
func TestPointsTooBig(t *testing.T) {
	l := []chart{slide(flat(ofInt(share(3))))}
	g := grown(t, 3, l...)
	all := firsts(l, 3)
	p := at(flat(ofInt(share(2))))
	var want, got []int
	for i, x := range all {
		if x.m.at(p).fits() {
			want = append(want, i)
		}
	}
	for i, q := range g.Points(p.point()) {
		got = append(got, i)
		if q != all[i].m.at(p).point() {
			t.Errorf("%d is sent elsewhere", i)
		}
	}
	if len(want) == len(all) || len(want) < 2 || !slices.Equal(got, want) {
		t.Errorf("told are %v, want %v", got, want)
	}
}

// P17.5: both may be left at any place, and gone over from the beginning again.
func TestLeftEarly(t *testing.T) {
	g := grown(t, 4, swap(), shift())
	all, points := g.All(), g.Points(far().point())
	for stop := range g.Len() {
		n := 0
		for i := range all {
			if n++; i == stop {
				break
			}
		}
		m := 0
		for i := range points {
			if m++; i == stop {
				break
			}
		}
		if n != stop+1 || m != stop+1 {
			t.Fatalf("left at %d: %d, %d are told", stop, n, m)
		}
	}
}

// P17.5: both are as they were when the call was made, however the group grows
// on, or is refused to.
func TestGrowsOnMeanwhile(t *testing.T) {
	g := grown(t, 2, swap(), shift())
	n := g.Len()
	all, points := g.All(), g.Points(at(in(1, 1)).point())
	var members []api.Member
	var images []api.Point
	for _, m := range all {
		members = append(members, m)
		wantError(t, "Grow", g.Grow(g.Depth()+1), api.OK)
		g.Grow(api.MaxList)
	}
	for _, p := range points {
		images = append(images, p)
		g.Grow(g.Depth() + 1)
	}
	if len(members) != n || len(images) != n || g.Len() <= n {
		t.Fatalf("%d members, %d images of %d", len(members), len(images), n)
	}
	for i, m := range members {
		if want, _ := g.Member(i); !sameMember(m, want) {
			t.Errorf("%d is another one", i)
		}
	}
	if again := slices.Collect(func(yield func(int) bool) {
		for i := range all {
			if !yield(i) {
				return
			}
		}
	}); len(again) != n {
		t.Errorf("gone over again: %d", len(again))
	}
}
