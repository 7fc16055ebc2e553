package flips_test

import (
	"testing"

	"tracery/api"
	"tracery/flips"
)

// The examples of the chapter.

func TestExamplesOfRow(t *testing.T) { // P28.1
	one, two, up := in(1, 0).gauss(), in(2, 0).gauss(), on(0, 1).point()
	l, e := flips.Row(points(straight(3, in(1, 0))), []api.Gauss{one, one}, two, up)
	wantPoints(t, "Row(0 1 2; 1 1; 2; 1i)", l, e, points([]spot{on(0, 1), at(parts(-1, 5, 2, 5)), at(parts(8, 13, 1, 13))}))
	l, e = flips.Row(points(straight(2, in(1, 0))), []api.Gauss{one}, one, up)
	wantNoPoints(t, "Row(0 1; 1; 1; 1i)", l, e, api.ErrArg)
	l, e = flips.Row(points(straight(2, in(0, 0))), []api.Gauss{one}, two, up)
	wantNoPoints(t, "Row(0 0; 1; 2; 1i)", l, e, api.ErrNet)
}

func TestExamplesOfSteps(t *testing.T) { // P28.2
	m, e := flips.Step(on(0, 0).point(), far().point(), in(2, 0).gauss())
	want(t, "Step(0, inf, 2)", m, e, stretch(in(-1, 0)).mob())
	m, e = flips.Step(on(0, 0).point(), on(1, 0).point(), in(1, 0).gauss())
	wantNone(t, "Step(0, 1, 1)", m, e, api.ErrArg)
	m, e = flips.Step(on(1, 0).point(), on(1, 0).point(), in(2, 0).gauss())
	wantNone(t, "Step(1, 1, 2)", m, e, api.ErrNet)
	m, e = flips.Carry([]api.Point{on(7, 0).point()}, nil, in(2, 0).gauss())
	want(t, "Carry of one point", m, e, still().mob())
}

func TestExamplesOfNets(t *testing.T) { // P28.3, P28.5
	n := unit().mesh(t).net(t)
	o, e := flips.Flip(n, in(1, 0).gauss(), on(0, 1).point())
	wantNoNet(t, "Flip(N, 1, 1i)", o, e, api.ErrArg)
	o, e = flips.Flip(nil, in(2, 0).gauss(), on(0, 1).point())
	wantNoNet(t, "Flip(nil, 2, 1i)", o, e, api.ErrNil)
	o, e = flips.Flip(n, in(2, 0).gauss(), on(0, 0).point())
	wantNoNet(t, "Flip(N, 2, 0)", o, e, api.ErrNet)
	o, e = flips.Flip(n, in(2, 0).gauss(), on(3, 1).point())
	is, f := flips.Beside(n, o, in(2, 0).gauss())
	want(t, "Beside(N, Flip(N, 2, 3+1i), 2)", is, e+f, true)
}
