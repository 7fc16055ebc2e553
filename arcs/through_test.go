package arcs_test

import (
	"math"
	"math/rand"
	"testing"

	"tracery/api"
	"tracery/arcs"
)

func TestThroughExamples(t *testing.T) { // P29.2
	n := minusNought()
	for _, x := range []struct {
		p, q, r complex128
		want    api.Arc
		e       api.Errno
	}{
		{0, 1, 2, straight(0, 2), api.OK},
		{2i, 1i, 0, straight(2i, 0), api.OK},
		// q need not be between p and r.
		{0, 2, 1, straight(0, 1), api.OK},
		{0, 1, complex(2, n), straight(0, complex(2, n)), api.OK}, // A is -0
		{0, 0, 0, api.Arc{}, api.ErrNone},
		{1, 1, 2, api.Arc{}, api.ErrNone},
		{1, 2, 1, api.Arc{}, api.ErrNone},
		{1, 2, 2, api.Arc{}, api.ErrNone},
		{0, complex(n, n), 1, api.Arc{}, api.ErrNone},
		// Far off the difference of two is 0 by rounding.
		{0x1p60, 0x1p60 + 1, 1i, api.Arc{}, api.ErrNone},
		// The radius gets 0, though A does not.
		{0, 0x1p-400, 0x1p-400i, api.Arc{}, api.ErrNone},
		// A is an infinity, or a NaN: the centre's error is ErrFloat, and here ErrNone.
		{0, 0x1p600, 0x1p600i, api.Arc{}, api.ErrNone},
		{0, 0x1p600 + 0x1p600i, 0x1p600 - 0x1p600i, api.Arc{}, api.ErrNone},
		{-0x1p1023, 0x1p1023, 1i, api.Arc{}, api.ErrNone},
		// The centre is an infinity.
		{0, 0x1p200, complex(0x1p201, 0x1p-1000), api.Arc{}, api.ErrFloat},
		// The centre is an infinity, and the radius has an error, since C is one.
		{0x1p28i, complex(0x1p501, 0x1p28+0x1p-24), 64 + 0x1p28i, api.Arc{}, api.ErrNone},
		// The radius is an infinity, the centre is not.
		{0, 0x1p256, 0x1p256i, api.Arc{}, api.ErrFloat},
	} {
		a, e := arcs.Through(x.p, x.q, x.r)
		wantArc(t, told("Through", x.p, x.q, x.r), a, e, x.want, x.e)
	}
}

// What the examples lean on: which of layer 12's answers they are about.
func TestThroughExamplesAreSo(t *testing.T) { // P29.2
	f, _ := circleThrough(0, 1, complex(2, minusNought()))
	if bits(f.A) != signBit {
		t.Error("A", f.A)
	}
	f, e := circleThrough(0x1p28i, complex(0x1p501, 0x1p28+0x1p-24), 64+0x1p28i)
	z, d := centreOf(f)
	_, c := radiusOf(f)
	if e != api.OK || d != api.OK || c != api.ErrFloat || areFinite(z) {
		t.Error("centre and radius", e, z, d, c)
	}
	f, _ = circleThrough(0, 0x1p256, 0x1p256i)
	z, d = centreOf(f)
	x, c := radiusOf(f)
	if d != api.OK || c != api.OK || !areFinite(z) || isFinite(x) {
		t.Error("radius", z, d, x, c)
	}
	f, _ = circleThrough(0, 0x1p-400, 0x1p-400i)
	if x, c := radiusOf(f); x != 0 || c != api.OK || f.A == 0 {
		t.Error("a radius of 0", x, c, f.A)
	}
}

func TestThroughSides(t *testing.T) { // P29.2
	for _, x := range []struct {
		p, q, r complex128
		left    bool
	}{
		{1, 1i, -1, true}, {1, -1i, -1, false}, {-1, 1i, 1, false}, {-1, -1i, 1, true},
		// A quarter of the way, and three quarters.
		{1, 0.6 + 0.8i, 1i, true}, {1, -1, 1i, false}, {1i, 0.6 + 0.8i, 1, false}, {1i, -1, 1, true},
	} {
		a, e := arcs.Through(x.p, x.q, x.r)
		if e != api.OK || a.Kind != api.ArcBow || a.From != x.p || a.To != x.r || a.Left != x.left || math.Abs(a.Radius-1) > 1e-15 || math.Abs(real(a.Centre))+math.Abs(imag(a.Centre)) > 1e-15 {
			t.Errorf("Through(%v, %v, %v): %v, %v", x.p, x.q, x.r, a, e)
		}
	}
}

func wantThrough(t *testing.T, p, q, r complex128) (api.ArcKind, api.Errno) {
	t.Helper()
	want, wantE := arcThrough(p, q, r)
	a, e := arcs.Through(p, q, r)
	wantArc(t, told("Through", p, q, r), a, e, want, wantE)
	return a.Kind, e
}

func TestThroughMany(t *testing.T) { // P29.2
	counts, made := tally{}, map[api.ArcKind]int{}
	ask := func(p, q, r complex128) {
		kind, e := wantThrough(t, p, q, r)
		counts[e]++
		made[kind]++
	}
	for _, x := range edgeFloats() {
		for _, y := range edgeFloats() {
			ask(complex(x, y), 1, 2i)
			ask(1, complex(x, y), 2i)
			ask(1, 2i, complex(x, y))
			ask(complex(x, 0), complex(0, y), 1)
			ask(complex(x, y), 0, complex(y, x))
		}
	}
	r := rand.New(rand.NewSource(294))
	for _, part := range kinds() {
		for range 10000 {
			p, q, s := part.number(r), part.number(r), part.number(r)
			ask(p, q, s)
			ask(p, q, p)
			ask(p, s, q)
		}
	}
	counts.want(t, 5000, api.OK, api.ErrFloat, api.ErrNone)
	if made[api.ArcStraight] < 2000 || made[api.ArcBow] < 2000 {
		t.Error(made)
	}
}

// Nearly on one line: which side it is, hangs on the formula.
func TestThroughNearlyStraight(t *testing.T) { // P29.2
	r := rand.New(rand.NewSource(295))
	counts, made := tally{}, map[api.ArcKind]int{}
	sides := 0
	for range 40000 {
		p, d := complex(usual(r), usual(r)), complex(usual(r), usual(r))
		q, s := p+complex(r.Float64(), 0)*d, p+d
		kind, e := wantThrough(t, p, q, s)
		counts[e]++
		made[kind]++
		if isAbove(crossOf(differenceOf(q, p), differenceOf(s, q))) != isAbove(crossOf(differenceOf(q, p), differenceOf(s, p))) {
			sides++
		}
	}
	counts.want(t, 10000, api.OK)
	if made[api.ArcStraight] < 1000 || made[api.ArcBow] < 1000 || sides < 100 {
		t.Error(made, sides)
	}
}

// A small circle far off: what is under the root gets below 0 by rounding.
func TestThroughFarOff(t *testing.T) { // P29.2
	r := rand.New(rand.NewSource(296))
	counts := tally{}
	roots := 0
	for range 20000 {
		far := complex(0x1p30+float64(r.Intn(64)), float64(r.Intn(1<<20)))
		var l [3]complex128
		for k := range l {
			l[k] = far + complex(float64(r.Intn(1<<12)), float64(r.Intn(1<<12)))/0x1p12
		}
		_, e := wantThrough(t, l[0], l[1], l[2])
		counts[e]++
		if f, d := circleThrough(l[0], l[1], l[2]); d == api.OK && !isNought(f.A) {
			if _, d := radiusOf(f); d == api.ErrNone {
				roots++
			}
		}
	}
	counts.want(t, 1000, api.OK, api.ErrNone)
	if roots < 1000 {
		t.Error(roots)
	}
}
