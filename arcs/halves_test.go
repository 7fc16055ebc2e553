package arcs_test

import (
	"math"
	"testing"

	"tracery/api"
	"tracery/arcs"
)

func TestHalvesExamples(t *testing.T) { // P29.4
	n := minusNought()
	for _, x := range []struct {
		a, first, second api.Arc
		e                api.Errno
	}{
		{straight(0, 2), straight(0, 1), straight(1, 2), api.OK},
		{straight(complex(n, 0), 2), straight(complex(n, 0), 1), straight(1, 2), api.OK},
		{round(0, 1), bow(1, -1, 0, 1, true), bow(-1, 1, 0, 1, true), api.OK},
		{round(complex(n, n), 2), bow(2, -2, complex(n, n), 2, true), bow(-2, 2, complex(n, n), 2, true), api.OK},
		{half(), bow(1, 1i, 0, 1, true), bow(1i, -1, 0, 1, true), api.OK},
		{bow(1, -1, 0, 1, false), bow(1, -1i, 0, 1, false), bow(-1i, -1, 0, 1, false), api.OK},
		{bow(1, 1, 0, 1, true), api.Arc{}, api.Arc{}, api.ErrNone},
		{straight(0x1p1023, 0x1p1023), api.Arc{}, api.Arc{}, api.ErrFloat},
		// At the left it is too great, and at the right.
		{round(-0x1p1023, 0x1p1023), api.Arc{}, api.Arc{}, api.ErrFloat},
		{round(0x1p1023, 0x1p1023), api.Arc{}, api.Arc{}, api.ErrFloat},
		{round(0x1p1022, math.MaxFloat64), api.Arc{}, api.Arc{}, api.ErrFloat},
	} {
		first, second, e := arcs.Halves(x.a)
		wantArc(t, told("the first half", x.a), first, e, x.first, x.e)
		wantArc(t, told("the second half", x.a), second, e, x.second, x.e)
	}
}

func TestHalvesMany(t *testing.T) { // P29.4
	counts := tally{}
	right := 0
	arcsOf(298, 10000, func(a api.Arc) {
		wantFirst, wantSecond, wantE := halvesOf(a)
		first, second, e := arcs.Halves(a)
		wantArc(t, told("the first half", a), first, e, wantFirst, wantE)
		wantArc(t, told("the second half", a), second, e, wantSecond, wantE)
		counts[e]++
		if _, d := arcs.Middle(a); d != e {
			right++
		}
		// Halves of what may be may be.
		if e == api.OK && (arcs.Check(first) != api.OK || arcs.Check(second) != api.OK) {
			t.Fatalf("Halves(%v): %v, %v", a, first, second)
		}
	})
	counts.want(t, 100, api.OK, api.ErrFloat, api.ErrNone)
	if right < 10 {
		t.Errorf("a rightmost point was refused only %d times", right)
	}
}

func TestBackExamples(t *testing.T) { // P29.4
	n := minusNought()
	for _, x := range []struct{ a, want api.Arc }{
		{straight(0, 2i), straight(2i, 0)},
		{straight(complex(n, 1), complex(0, n)), straight(complex(0, n), complex(n, 1))},
		{round(1, 2), round(1, 2)},
		{round(complex(n, n), 2), round(complex(n, n), 2)},
		{half(), bow(-1, 1, 0, 1, false)},
		{bow(5, 7i, 3-2i, 9, false), bow(7i, 5, 3-2i, 9, true)},
	} {
		a, e := arcs.Back(x.a)
		wantArc(t, told("Back", x.a), a, e, x.want, api.OK)
	}
}

func TestBackMany(t *testing.T) { // P29.4
	arcsOf(299, 2000, func(a api.Arc) {
		want, wantE := backOf(a)
		b, e := arcs.Back(a)
		wantArc(t, told("Back", a), b, e, want, wantE)
	})
}
