package arcs_test

import (
	"testing"

	"tracery/api"
	"tracery/arcs"
)

// The table 'Examples' of the chapter, row by row.
func TestExamples(t *testing.T) {
	first, e := arcs.Through(1, 1i, -1) // P29.2
	if e != api.OK || first.Kind != api.ArcBow || first.From != 1 || first.To != -1 || first.Centre != 0 || first.Radius != 1 || !first.Left {
		t.Fatal(first, e)
	}
	other, e := arcs.Through(1, -1i, -1)
	if e != api.OK || other.Kind != api.ArcBow || other.From != 1 || other.To != -1 || other.Centre != 0 || other.Radius != 1 || other.Left {
		t.Error(other, e)
	}
	a, e := arcs.Through(0, 1, 2)
	wantArc(t, "Through(0, 1, 2)", a, e, straight(0, 2), api.OK)
	a, e = arcs.Through(0, 0, 0)
	wantArc(t, "Through(0, 0, 0)", a, e, api.Arc{}, api.ErrNone)

	if z, e := arcs.Middle(first); z != 1i || e != api.OK { // P29.3
		t.Error(z, e)
	}
	if z, e := arcs.Middle(straight(0, 2)); z != 1 || e != api.OK {
		t.Error(z, e)
	}
	if z, e := arcs.Middle(round(1, 2)); z != -1 || e != api.OK {
		t.Error(z, e)
	}

	if a, e := arcs.Round(circle(1, 0, -1)); a.Kind != api.ArcRound || a.Centre != 0 || a.Radius != 1 || e != api.OK { // P29.1
		t.Error(a, e)
	}
	for _, f := range []api.FCircle{circle(0, 1, 0), circle(1, 0, 1)} {
		a, e := arcs.Round(f)
		wantArc(t, told("Round", f), a, e, api.Arc{}, api.ErrNone)
	}

	if low, high, e := arcs.Box(first); low != -1 || high != 1+1i || e != api.OK { // P29.6
		t.Error(low, high, e)
	}
	if low, high, e := arcs.Box(); low != 0 || high != 0 || e != api.ErrNone {
		t.Error(low, high, e)
	}

	if a, e := arcs.Image(upsideDown(), straight(1, 2)); a.Kind != api.ArcStraight || a.From != 1 || a.To != 0.5 || e != api.OK { // P29.5
		t.Error(a, e)
	}
	a, e = arcs.Image(upsideDown(), straight(0, 1))
	wantArc(t, "Image", a, e, api.Arc{}, api.ErrNone)

	if s, e := arcs.Text(straight(0, 1)); s != "straight 0000000000000000,0000000000000000 3ff0000000000000,0000000000000000\n" || e != api.OK { // P29.7
		t.Errorf("%q, %v", s, e)
	}
}
