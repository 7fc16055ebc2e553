package arcs_test

import (
	"math"
	"math/rand"
	"testing"

	"tracery/api"
	"tracery/arcs"
)

func TestStraight(t *testing.T) { // P29.1
	l := edgeFloats()
	counts := tally{}
	for _, x := range l {
		for _, y := range l {
			for _, two := range [][2]complex128{{complex(x, y), 1}, {2i, complex(x, y)}, {complex(x, 1), complex(y, 2)}, {complex(1, x), complex(2, y)}} {
				want, wantE := straightOf(two[0], two[1])
				a, e := arcs.Straight(two[0], two[1])
				wantArc(t, told("Straight", two), a, e, want, wantE)
				counts[e]++
			}
		}
	}
	counts.want(t, 500, api.OK, api.ErrFloat)
	n := minusNought()
	a, e := arcs.Straight(complex(n, 0), complex(0, n))
	wantArc(t, "Straight", a, e, api.Arc{Kind: api.ArcStraight, From: complex(n, 0), To: complex(0, n)}, api.OK)
}

func TestRoundExamples(t *testing.T) { // P29.1
	n, inf, nan := minusNought(), math.Inf(1), math.NaN()
	for _, x := range []struct {
		f    api.FCircle
		want api.Arc
		e    api.Errno
	}{
		{circle(1, 0, -1), round(complex(n, 0), 1), api.OK},
		{circle(-1, 0, 1), round(complex(0, n), 1), api.OK},
		{circle(1, -3+4i, 0), round(3+4i, 5), api.OK},
		{circle(-2, 6-8i, 0), round(3+4i, 5), api.OK},
		// A line; of either nought; one point; none.
		{circle(0, 1, 0), api.Arc{}, api.ErrNone},
		{circle(n, 1, 0), api.Arc{}, api.ErrNone},
		{circle(0, 0, 0), api.Arc{}, api.ErrNone},
		{circle(1, 0, 0), api.Arc{}, api.ErrNone},
		{circle(1, 3-4i, 25), api.Arc{}, api.ErrNone},
		{circle(1, 0, 1), api.Arc{}, api.ErrNone},
		// The radius gets too small.
		{circle(0x1p1000, 0x1p-500, 0), api.Arc{}, api.ErrNone},
		{circle(1, 0x1p-600, 0), api.Arc{}, api.ErrNone},
		// What is not finite.
		{circle(nan, 0, -1), api.Arc{}, api.ErrFloat},
		{circle(1, complex(nan, 0), -1), api.Arc{}, api.ErrFloat},
		{circle(1, complex(0, inf), -1), api.Arc{}, api.ErrFloat},
		{circle(1, 0, nan), api.Arc{}, api.ErrFloat},
		{circle(1, 0, -inf), api.Arc{}, api.ErrFloat},
		// The radius is an infinity; a NaN.
		{circle(1, 0x1p600, 1), api.Arc{}, api.ErrFloat},
		{circle(0x1p600, 0x1p600, 0x1p600), api.Arc{}, api.ErrFloat},
		{circle(0x1p-1074, 0, -0x1p1000), api.Arc{}, api.ErrFloat},
		// The centre's error is ErrZero, the radius' ErrFloat.
		{circle(0, 1, nan), api.Arc{}, api.ErrFloat},
		{circle(n, 1i, inf), api.Arc{}, api.ErrFloat},
		// The centre is an infinity, and the radius' error ErrNone, or the radius 0.
		{circle(0x1p-1074, 0x1p-30, 0x1p1023), api.Arc{}, api.ErrFloat},
		{circle(0x1p-1074, 0x1p-30i, 0x1p1023), api.Arc{}, api.ErrFloat},
		{circle(0x1p-1074, 0x1p-30, 0x1p1014), api.Arc{}, api.ErrFloat},
	} {
		a, e := arcs.Round(x.f)
		wantArc(t, told("Round", x.f), a, e, x.want, x.e)
	}
}

func TestRoundMany(t *testing.T) { // P29.1
	counts := tally{}
	ask := func(f api.FCircle) {
		want, wantE := roundOf(f)
		a, e := arcs.Round(f)
		wantArc(t, told("Round", f), a, e, want, wantE)
		counts[e]++
	}
	l := edgeFloats()
	for _, x := range l {
		for _, y := range l {
			ask(circle(x, complex(y, 1), -1))
			ask(circle(x, complex(1, y), -1))
			ask(circle(x, 1, y))
			ask(circle(1, complex(x, y), 1))
		}
	}
	r := rand.New(rand.NewSource(292))
	for _, part := range kinds() {
		for range 10000 {
			ask(part.circle(r))
		}
	}
	counts.want(t, 5000, api.OK, api.ErrFloat, api.ErrNone)
}

func TestCircleExamples(t *testing.T) { // P29.1
	n := minusNought()
	for _, x := range []struct {
		a    api.Arc
		want api.FCircle
		e    api.Errno
	}{
		{round(0, 1), circle(1, complex(n, 0), -1), api.OK},
		{round(complex(n, n), 1), circle(1, complex(0, n), -1), api.OK},
		{round(3+4i, 5), circle(1, -3+4i, 0), api.OK},
		{bow(1, -1, 3-4i, 2, true), circle(1, -3-4i, 21), api.OK},
		{straight(0, 1), api.FCircle{}, api.ErrNone},
		// Squares that are infinite, both of them too; and such as get 0.
		{round(0, 0x1p512), api.FCircle{}, api.ErrFloat},
		{round(0x1p512, 1), api.FCircle{}, api.ErrFloat},
		{round(0x1p512i, 0x1p512), api.FCircle{}, api.ErrFloat},
		{bow(0, 1, 0, 1e300, false), api.FCircle{}, api.ErrFloat},
		{round(1, 0x1p-600), circle(1, complex(-1, 0), 1), api.OK},
		{round(0, 0x1p-1074), circle(1, complex(n, 0), 0), api.OK},
		{round(0, 0x1.fp511), circle(1, complex(n, 0), -0x1.e08p1023), api.OK},
	} {
		f, e := arcs.Circle(x.a)
		if e != x.e || !likeCircles(f, x.want) {
			t.Errorf("Circle(%v): %v, %v, not %v, %v", x.a, f, e, x.want, x.e)
		}
	}
}

func TestCircleMany(t *testing.T) { // P29.1
	counts := tally{}
	arcsOf(293, 5000, func(a api.Arc) {
		want, wantE := ringOf(a)
		f, e := arcs.Circle(a)
		if e != wantE || !likeCircles(f, want) {
			t.Fatalf("Circle(%v): %v, %v, not %v, %v", a, f, e, want, wantE)
		}
		counts[e]++
	})
	counts.want(t, 1000, api.OK, api.ErrFloat, api.ErrNone)
}
