package plane_test

import (
	"testing"

	"tracery/api"
	"tracery/mob"
	"tracery/plane"
)

// The chapter's table, row by row.

func TestExampleFar(t *testing.T) { // P25.1
	far, e := plane.Far(api.Upper, in(0, 1).gauss(), in(0, 2).gauss())
	want(t, "Far(Upper; 1i, 2i)", far, e, fraction(rat(5, 4)))
	far, e = plane.Far(api.Round, in(0, 0).gauss(), parts(1, 2, 0, 1).gauss())
	want(t, "Far(Round; 0, 1/2)", far, e, fraction(rat(5, 3)))
	far, e = plane.Far(api.Upper, in(0, 0).gauss(), in(0, 1).gauss())
	wantNone(t, "Far(Upper; 0, 1i)", far, e, api.ErrOut)
	far, e = plane.Far(api.Round, in(0, 0).gauss(), parts(1, 3, 0, 1).gauss()) // DOC.md's ninth
	want(t, "Far(Round; 0, 1/3)", far, e, fraction(rat(5, 4)))
}

func TestExampleChart(t *testing.T) { // P25.2
	m, e := plane.Chart(api.Upper, api.Round)
	if e != api.OK {
		t.Fatal(e)
	}
	for _, x := range []struct{ from, to api.Point }{
		{api.Point{Z: in(0, 1).gauss()}, api.Point{Z: in(0, 0).gauss()}},
		{api.Point{Z: in(0, 0).gauss()}, api.Point{Z: in(-1, 0).gauss()}},
		{api.Point{Inf: true}, api.Point{Z: in(1, 0).gauss()}},
	} {
		to, e := mob.At(m, x.from)
		want(t, "the image", to, e, x.to)
	}
}

func TestExampleMaps(t *testing.T) { // P25.3
	turn := chart{in(0, 1), in(0, 0), in(0, 0), in(1, 0), false}
	for _, x := range []struct {
		p    api.Picture
		m    chart
		want bool
	}{{api.Upper, charted(1, 1, 0, 1), true}, {api.Upper, turn, false}, {api.Round, turn, true}, {api.Upper, still().turned(), false}} {
		keeps, e := plane.Keeps(x.p, x.m.mob())
		want(t, "Keeps of "+brief(x.m), keeps, e, x.want)
	}
	m, e := plane.Move(api.Upper, in(0, 1).gauss(), in(1, 2).gauss())
	want(t, "Move(Upper; 1i, 1+2i)", m, e, charted(2, 1, 0, 1).mob())
	m, e = plane.Move(api.Round, parts(1, 2, 0, 1).gauss(), in(0, 0).gauss())
	want(t, "Move(Round; 1/2, 0)", m, e, chart{in(1, 0), parts(-1, 2, 0, 1), parts(-1, 2, 0, 1), in(1, 0), false}.formed().mob())
}

func TestExampleLines(t *testing.T) { // P25.4, P25.5, P25.6
	i := in(0, 1).gauss()
	c, e := plane.Line(api.Upper, i, in(0, 2).gauss())
	want(t, "Line(Upper; 1i, 2i)", c, e, ringed(0, 1, 0, 0).circle())
	c, e = plane.Line(api.Upper, i, in(1, 1).gauss())
	want(t, "Line(Upper; 1i, 1+1i)", c, e, ring{one(), parts(-1, 2, 0, 1), rat(-1, 1)}.circle())
	c, e = plane.Line(api.Round, in(0, 0).gauss(), parts(0, 1, 1, 2).gauss())
	want(t, "Line(Round; 0, 1/2i)", c, e, ringed(0, 1, 0, 0).circle())
	z, e := plane.Foot(api.Upper, ringed(0, 1, 0, 0).circle(), in(1, 1).gauss())
	wantNone(t, "Foot(Upper; Re z = 0, 1+1i)", z, e, api.ErrNone)
	z, e = plane.Foot(api.Upper, ringed(0, 1, 0, 0).circle(), in(3, 4).gauss())
	want(t, "Foot(Upper; Re z = 0, 3+4i)", z, e, in(0, 5).gauss())
	c, e = plane.Middle(api.Upper, i, in(0, 4).gauss())
	want(t, "Middle(Upper; 1i, 4i)", c, e, ringed(1, 0, 0, -4).circle())
	c, e = plane.Middle(api.Upper, i, in(0, 2).gauss())
	want(t, "Middle(Upper; 1i, 2i)", c, e, ringed(1, 0, 0, -2).circle())
	c, e = plane.Around(api.Upper, i, fraction(rat(5, 4)))
	want(t, "Around(Upper; 1i, 5/4)", c, e, ring{one(), parts(0, 1, 5, 4), one()}.circle())
}

func TestExampleAngles(t *testing.T) { // P25.7
	i := in(0, 1).gauss()
	is, e := plane.Between(api.Upper, i, in(0, 2).gauss(), in(0, 3).gauss())
	want(t, "Between(Upper; 1i, 2i, 3i)", is, e, true)
	cos2, sharp, e := plane.Angle(api.Upper, i, in(0, 2).gauss(), in(1, 1).gauss())
	want(t, "Angle(Upper; 1i, 2i, 1+1i)", angle{cos2, sharp}, e, angle{fraction(rat(1, 5)), 1})
}
