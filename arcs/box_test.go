package arcs_test

import (
	"math/rand"
	"testing"

	"tracery/api"
	"tracery/arcs"
)

func wantBox(t *testing.T, l []api.Arc, low, high complex128, want api.Errno) {
	t.Helper()
	what := told("Box", l)
	if len(l) > 20 {
		what = told("Box", len(l), " arcs")
	}
	x, y, e := arcs.Box(l...)
	wantNumber(t, what, x, e, low, want)
	wantNumber(t, what, y, e, high, want)
}

func TestBoxExamples(t *testing.T) { // P29.6
	n := minusNought()
	for _, x := range []struct {
		l         []api.Arc
		low, high complex128
		e         api.Errno
	}{
		{nil, 0, 0, api.ErrNone},
		{[]api.Arc{}, 0, 0, api.ErrNone},
		{[]api.Arc{half()}, -1, 1 + 1i, api.OK},
		{[]api.Arc{bow(1, -1, 0, 1, false)}, -1 - 1i, 1, api.OK},
		{[]api.Arc{straight(1+5i, 3-2i)}, 1 - 2i, 3 + 5i, api.OK},
		{[]api.Arc{straight(1+1i, 1+1i)}, 1 + 1i, 1 + 1i, api.OK},
		{[]api.Arc{round(1+2i, 3)}, -2 - 1i, 4 + 5i, api.OK},
		// A quarter, and what is left of the circle.
		{[]api.Arc{bow(1, 1i, 0, 1, true)}, 0, 1 + 1i, api.OK},
		{[]api.Arc{bow(1, 1i, 0, 1, false)}, -1 - 1i, 1 + 1i, api.OK},
		{[]api.Arc{bow(1i, 1, 0, 1, true)}, -1 - 1i, 1 + 1i, api.OK},
		{[]api.Arc{bow(1i, 1, 0, 1, false)}, 0, 1 + 1i, api.OK},
		{[]api.Arc{bow(3+4i, -3+4i, 0, 5, true)}, -3 + 4i, 3 + 5i, api.OK},
		{[]api.Arc{bow(3+4i, -3+4i, 0, 5, false)}, -5 - 5i, 5 + 4i, api.OK},
		// From and To count, wherever they are.
		{[]api.Arc{bow(9+9i, -9-9i, 0, 1, true)}, -9 - 9i, 9 + 9i, api.OK},
		// Of one that comes back at once d is 0: no more than its ends.
		{[]api.Arc{bow(1, 1, 0, 1, true)}, 1, 1, api.OK},
		{[]api.Arc{bow(1, 1, 0, 1, false)}, 1, 1, api.OK},
		{[]api.Arc{straight(0, 1), round(5i, 1), half()}, -1, 1 + 6i, api.OK},
		// Of two noughts the first one stays.
		{[]api.Arc{straight(complex(n, 0), complex(0, n))}, complex(n, 0), complex(n, 0), api.OK},
		{[]api.Arc{straight(complex(0, n), complex(n, 0))}, complex(0, n), complex(0, n), api.OK},
		{[]api.Arc{straight(complex(n, n), complex(n, n)), straight(0, 0)}, complex(n, n), complex(n, n), api.OK},
		{[]api.Arc{straight(0, 0), straight(complex(n, n), complex(n, n))}, 0, 0, api.OK},
		{[]api.Arc{straight(complex(n, n), 1+1i)}, complex(n, n), 1 + 1i, api.OK},
		{[]api.Arc{straight(complex(n, n), -1-1i)}, -1 - 1i, complex(n, n), api.OK},
		{[]api.Arc{bow(complex(1, n), complex(-1, n), 0, 1, true)}, complex(-1, n), 1 + 1i, api.OK},
		{[]api.Arc{straight(1, 1+1i), bow(complex(1, n), complex(-1, n), 0, 1, true)}, complex(-1, 0), 1 + 1i, api.OK},
		// A round one's corners have no nought below 0 but by its centre.
		{[]api.Arc{round(complex(n, n), 1)}, -1 - 1i, 1 + 1i, api.OK},
	} {
		wantBox(t, x.l, x.low, x.high, x.e)
	}
}

// A corner that is not finite counts, if it is one: on a bow's side.
func TestBoxNotFinite(t *testing.T) { // P29.6
	big := 0x1p1023
	for _, x := range []struct {
		a api.Arc
		e api.Errno
	}{
		{round(complex(big, 0), big), api.ErrFloat},
		{round(complex(-big, 0), big), api.ErrFloat},
		{round(complex(0, big), big), api.ErrFloat},
		{round(complex(0, -big), big), api.ErrFloat},
		{round(0, big), api.OK},
		// At the right of an upright chord.
		{bow(0, 1i, complex(big, 0), big, true), api.ErrFloat},
		{bow(0, 1i, complex(big, 0), big, false), api.OK},
		{bow(1i, 0, complex(big, 0), big, true), api.OK},
		{bow(1i, 0, complex(big, 0), big, false), api.ErrFloat},
		// Of a level chord d is a NaN: 0 times an infinity.
		{bow(0, 1, complex(big, 0), big, true), api.OK},
		{bow(0, 1, complex(big, 0), big, false), api.OK},
		// A chord that is not finite.
		{bow(complex(-big, 0), complex(big, 0), 0, 1, true), api.OK},
		{bow(complex(-big, 0), complex(big, 0), 0, 1, false), api.OK},
	} {
		for _, a := range [][]api.Arc{{x.a}, {straight(0, 1), x.a}, {x.a, straight(0, 1)}} {
			low, high, e := boxOf(a)
			if e != x.e {
				t.Fatalf("%v: %v", a, e)
			}
			wantBox(t, a, low, high, e)
		}
	}
}

func TestBoxOrderOfErrors(t *testing.T) { // P29.6
	counts := tally{}
	for _, l := range listsAbout() {
		low, high, e := boxOf(l)
		wantBox(t, l, low, high, e)
		counts[e]++
		if len(l) > 0 {
			l[0] = round(0x1p1023, 0x1p1023)
			low, high, e = boxOf(l)
			wantBox(t, l, low, high, e)
			counts[e]++
		}
	}
	counts.want(t, 2, api.OK, api.ErrArg, api.ErrLong, api.ErrFloat, api.ErrNone)
}

func TestBoxMany(t *testing.T) { // P29.6
	counts := tally{}
	arcsOf(303, 10000, func(a api.Arc) {
		low, high, e := boxOf([]api.Arc{a})
		wantBox(t, []api.Arc{a}, low, high, e)
		counts[e]++
	})
	counts.want(t, 100, api.OK, api.ErrFloat)
	r := rand.New(rand.NewSource(304))
	for _, part := range finiteKinds() {
		for range 500 {
			l := make([]api.Arc, 1+r.Intn(6))
			for k := range l {
				l[k] = part.arc(r)
			}
			low, high, e := boxOf(l)
			wantBox(t, l, low, high, e)
		}
	}
	if low, high, e := arcs.Box(many(half(), api.MaxList)...); low != -1 || high != 1+1i || e != api.OK {
		t.Error(low, high, e)
	}
}
