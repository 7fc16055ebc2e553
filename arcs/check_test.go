package arcs_test

import (
	"math"
	"math/rand"
	"testing"

	"tracery/api"
	"tracery/arcs"
)

func wantCheck(t *testing.T, a api.Arc) api.Errno {
	t.Helper()
	want := api.OK
	if !mayBeOf(a) {
		want = api.ErrArg
	}
	if e := arcs.Check(a); e != want {
		t.Fatalf("Check(%v): %v, not %v", a, e, want)
	}
	return want
}

func TestCheckExamples(t *testing.T) { // P29.1
	n := minusNought()
	for _, x := range []struct {
		a api.Arc
		e api.Errno
	}{
		{straight(0, 1), api.OK},
		{straight(0, 0), api.OK},
		{straight(complex(n, n), complex(n, 1)), api.OK},
		{straight(math.MaxFloat64, -math.MaxFloat64), api.OK},
		{round(0, 1), api.OK},
		{round(complex(n, n), 0x1p-1074), api.OK},
		{round(0, math.MaxFloat64), api.OK},
		{half(), api.OK},
		// Whether the ends are on the circle is not asked.
		{bow(5, 5, 0, 1, false), api.OK},
		{bow(5, 7, 0, 1, true), api.OK},
		{round(0, 0), api.ErrArg},
		{round(0, n), api.ErrArg},
		{round(0, -1), api.ErrArg},
		{round(0, -0x1p-1074), api.ErrArg},
		{round(0, math.Inf(1)), api.ErrArg},
		{round(0, math.NaN()), api.ErrArg},
		{bow(1, -1, 0, 0, true), api.ErrArg},
		{bow(1, -1, 0, -1, true), api.ErrArg},
		{api.Arc{}, api.ErrArg},
		{api.Arc{Kind: api.ArcStraight}, api.OK},
		{api.Arc{Kind: api.ArcStraight, Left: true}, api.ErrArg},
		{api.Arc{Kind: api.ArcRound, Radius: 1, Left: true}, api.ErrArg},
		// A nought below 0 is no zero field.
		{api.Arc{Kind: api.ArcStraight, Radius: n}, api.ErrArg},
		{api.Arc{Kind: api.ArcStraight, Radius: 1}, api.ErrArg},
		{api.Arc{Kind: api.ArcStraight, Centre: complex(n, 0)}, api.ErrArg},
		{api.Arc{Kind: api.ArcStraight, Centre: complex(0, n)}, api.ErrArg},
		{api.Arc{Kind: api.ArcRound, Radius: 1, From: complex(n, 0)}, api.ErrArg},
		{api.Arc{Kind: api.ArcRound, Radius: 1, From: complex(0, n)}, api.ErrArg},
		{api.Arc{Kind: api.ArcRound, Radius: 1, To: complex(n, 0)}, api.ErrArg},
		{api.Arc{Kind: api.ArcRound, Radius: 1, To: complex(0, n)}, api.ErrArg},
		{api.Arc{Kind: 4, Radius: 1}, api.ErrArg},
		{api.Arc{Kind: math.MinInt}, api.ErrArg},
		{api.Arc{Kind: math.MaxInt}, api.ErrArg},
	} {
		if e := arcs.Check(x.a); e != x.e {
			t.Errorf("Check(%v): %v, not %v", x.a, e, x.e)
		}
	}
}

func TestCheckMany(t *testing.T) { // P29.1
	counts := tally{}
	for _, a := range append(goodArcs(), wrongArcs()...) {
		counts[wantCheck(t, a)]++
	}
	r := rand.New(rand.NewSource(291))
	for _, part := range kinds() {
		for range 3000 {
			a := part.arc(r)
			if r.Intn(3) == 0 {
				a = withPart(a, r.Intn(7), part(r))
			}
			if r.Intn(5) == 0 {
				a.Kind = api.ArcKind(r.Intn(6) - 1)
			}
			counts[wantCheck(t, a)]++
		}
	}
	counts.want(t, 3000, api.OK, api.ErrArg)
}

// Every call that takes an arc refuses one that may not be, and tells nothing
// beside.
func TestWrongArcs(t *testing.T) { // P29.1, P29.3 to P29.7
	for _, a := range wrongArcs() {
		if e := arcs.Check(a); e != api.ErrArg {
			t.Fatalf("Check(%v): %v", a, e)
		}
		f, e := arcs.Circle(a)
		if e != api.ErrArg || !likeCircles(f, api.FCircle{}) {
			t.Fatalf("Circle(%v): %v, %v", a, f, e)
		}
		z, e := arcs.Middle(a)
		wantNumber(t, told("Middle", a), z, e, 0, api.ErrArg)
		x, y, e := arcs.Halves(a)
		wantArc(t, told("Halves", a), x, e, api.Arc{}, api.ErrArg)
		wantArc(t, told("Halves", a), y, e, api.Arc{}, api.ErrArg)
		s, e := arcs.Points(a, 0)
		if s != nil || e != api.ErrArg {
			t.Fatalf("Points(%v): %v", a, e)
		}
		x, e = arcs.Back(a)
		wantArc(t, told("Back", a), x, e, api.Arc{}, api.ErrArg)
		x, e = arcs.Image(still(), a)
		wantArc(t, told("Image", a), x, e, api.Arc{}, api.ErrArg)
		l, e := arcs.Images(still(), a)
		wantArcs(t, told("Images", a), l, e, nil, api.ErrArg)
		low, high, e := arcs.Box(a)
		wantNumber(t, told("Box", a), low, e, 0, api.ErrArg)
		wantNumber(t, told("Box", a), high, e, 0, api.ErrArg)
		if text, e := arcs.Text(a); text != "" || e != api.ErrArg {
			t.Fatalf("Text(%v): %q, %v", a, text, e)
		}
	}
}
