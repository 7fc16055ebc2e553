package circ_test

import (
	"math/rand"
	"testing"

	"tracery/api"
	"tracery/circ"
)

// wantMeasures wants Centre, Square and Power as the chapter tells them.
func wantMeasures(t *testing.T, k ring) {
	t.Helper()
	c := k.circle()
	centre, radius := far(), "the radius of "+brief(c)
	square, e := circ.Square(c)
	if k.line() {
		wantNoFrac(t, radius, square, e, api.ErrNone)
	} else {
		centre = at(k.b.conj().neg())
		wantFrac(t, radius, square, e, minus(k.b.norm(), k.c))
	}
	if got, e := circ.Centre(c); got != centre.point() || e != api.OK {
		t.Fatalf("the centre of %s is %s, %v", brief(c), briefPoint(got), e)
	}
	power, e := circ.Power(c)
	wantFrac(t, "the power of "+brief(c), power, e, k.power())
}

func TestMeasures(t *testing.T) { // P11.5
	for _, k := range rings() {
		wantMeasures(t, k)
	}
	r := rand.New(rand.NewSource(1150))
	for range 300 {
		wantMeasures(t, oddRing(r, 9))
	}
	rounds, lines := sides{}, sides{}
	for k := range 60 {
		round, line := fullRing(r, 200+k/6), fullLine(r, 505+k/4)
		rounds.count(upTo(round.power()))
		lines.count(upTo(line.power()))
		wantMeasures(t, round)
		wantMeasures(t, line)
	}
	rounds.both(t)
	lines.both(t)
}

func TestMeasuresOfExamples(t *testing.T) { // P11.5
	for _, x := range []struct {
		k             ring
		centre        spot
		square, power int64
	}{
		{unit(), on(0, 0), 1, 1}, {ringed(1, 1, 2, 3), on(-1, 2), 2, 2}, {ringed(1, -3, 4, 21), on(3, 4), 4, 4}, {reals(), far(), 0, 1}, {ringed(0, 1, 2, 9), far(), 0, 5},
	} {
		c := x.k.circle()
		if got, e := circ.Centre(c); got != x.centre.point() || e != api.OK {
			t.Errorf("the centre of %s is %s, %v", brief(c), briefPoint(got), e)
		}
		power, e := circ.Power(c)
		wantFrac(t, "the power of "+brief(c), power, e, rat(x.power, 1))
		square, e := circ.Square(c)
		if x.centre.inf {
			wantNoFrac(t, "the radius of a line", square, e, api.ErrNone)
			continue
		}
		wantFrac(t, "the radius of "+brief(c), square, e, rat(x.square, 1))
	}
}

func TestMeasuresAtTheBound(t *testing.T) { // P11.5
	long := real(ofInt(root()))
	for _, x := range []struct {
		k             ring
		square, power api.Errno
	}{
		{ring{rat(1, 1), long, rat(1, 1)}, api.OK, api.OK}, {ring{rat(1, 1), long, none()}, api.ErrBig, api.ErrBig}, {ring{rat(1, 1), long, rat(-1, 1)}, api.ErrBig, api.ErrBig},
		{ring{rat(1, 1), in(0, 0), opposite(ofInt(top()))}, api.OK, api.OK}, {ring{rat(1, 1), in(1, 0), opposite(ofInt(top()))}, api.ErrBig, api.ErrBig},
		{ring{none(), num{rat(1, 1), ofInt(root())}, none()}, api.ErrNone, api.ErrBig}, {ring{none(), num{rat(1, 1), ofInt(less(root(), 1))}, none()}, api.ErrNone, api.OK}, {ring{none(), in(0, 1), ofInt(top())}, api.ErrNone, api.OK},
		{ring{rat(1, 1), num{ofInt(top()), under(top())}, none()}, api.ErrBig, api.ErrBig},
	} {
		wantMeasures(t, x.k)
		c := x.k.circle()
		if _, e := circ.Square(c); e != x.square {
			t.Errorf("the radius of %s: %v, want %v", brief(c), e, x.square)
		}
		if _, e := circ.Power(c); e != x.power {
			t.Errorf("the power of %s: %v, want %v", brief(c), e, x.power)
		}
	}
}

func TestMeasuresRefuseWrongCircles(t *testing.T) { // P11.5
	for _, c := range wrongCircles() {
		if p, e := circ.Centre(c); p != (api.Point{}) || e != api.ErrArg {
			t.Fatalf("the centre of the wrong %s is %s, %v", brief(c), briefPoint(p), e)
		}
		got, e := circ.Square(c)
		wantNoFrac(t, "the radius of a wrong circle", got, e, api.ErrArg)
		got, e = circ.Power(c)
		wantNoFrac(t, "the power of a wrong circle", got, e, api.ErrArg)
	}
}
