package invert_test

import (
	"math/big"
	"math/rand"
	"testing"

	"tracery/api"
	"tracery/invert"
)

func wantOver(t *testing.T, k ring) string {
	t.Helper()
	got, e := invert.Over(k.circle())
	wanted := k.over()
	wantMap(t, "the turning over"+briefRings(k), got, e, wanted)
	switch {
	case !wanted.fits():
		return "ErrBig"
	case k.line():
		return "line"
	}
	return "round"
}

func TestOver(t *testing.T) { // P14.1
	seen := tally{}
	for _, k := range rings() {
		seen[wantOver(t, k)]++
	}
	seen.least(t, 3, "ErrBig")
	seen.least(t, 20, "line", "round")
}

func TestOverExamples(t *testing.T) { // P14.1
	for _, x := range []struct {
		k ring
		m chart
	}{
		{unit(), charted(0, 1, 1, 0)}, {reals(), still()}, {ups(), charted(-1, 0, 0, 1)}, {high(), slide(in(0, 2))}, {beside(rat(3, 1)), charted(-1, 6, 0, 1)},
		{o(0, 0, 3), charted(0, 9, 1, 0)}, {o(2, 0, 1), charted(2, -3, 1, -2)}, {o(1, 1, 2), chart{in(1, 1), in(2, 0), in(1, 0), in(-1, 1), false}},
		{ringed(0, 1, -1, 0), chart{in(0, -1), in(0, 0), in(0, 0), in(1, 0), false}}, // x is -y
	} {
		got, e := invert.Over(x.k.circle())
		wantMap(t, "the turning over"+briefRings(x.k), got, e, x.m.turned())
	}
}

// Of a circle the turning has no number that the circle has not; of a line it
// has, and is refused for what it has in its one form alone.
func TestOverAtTheBound(t *testing.T) { // P14.1
	inclined := func(im, c *big.Rat) ring { return ring{none(), num{rat(1, 1), im}, c} }
	most, half := ofInt(top()), ofInt(less(root(), 1))
	for _, x := range []struct {
		k    ring
		want string
	}{
		{longs()[0], "round"}, {longs()[2], "round"}, {longs()[7], "round"}, {longs()[1], "ErrBig"}, {steep(), "ErrBig"},
		{inclined(half, none()), "line"}, // 1 over 1 + half^2 has 1024 bytes
		{inclined(ofInt(root()), none()), "ErrBig"}, {inclined(opposite(ofInt(root())), none()), "ErrBig"}, {inclined(quo(rat(1, 1), half), none()), "line"}, {inclined(under(root()), none()), "ErrBig"},
		{inclined(none(), most), "line"}, {inclined(none(), opposite(under(top()))), "line"}, {inclined(rat(1, 1), most), "line"}, {inclined(rat(1, 1), under(top())), "ErrBig"},
		{inclined(rat(-2, 1), most), "line"}, // 5 divides it
		{inclined(rat(-2, 1), minus(most, rat(1, 1))), "ErrBig"}, {inclined(half, half), "line"}, {inclined(half, most), "ErrBig"},
		{ring{none(), in(0, 1), most}, "line"}, {ring{none(), in(0, 1), under(top())}, "line"},
	} {
		if got := wantOver(t, x.k); got != x.want {
			t.Errorf("the turning over%s: %s, want %s", briefRings(x.k), got, x.want)
		}
	}
	r := rand.New(rand.NewSource(1410))
	seen := tally{}
	for n := range 60 {
		seen[wantOver(t, fullLine(r, 336+n/6))]++
	}
	seen.least(t, 3, "line", "ErrBig")
}

func wantTurned(t *testing.T, k ring, p spot) string {
	t.Helper()
	got, e := invert.Point(k.circle(), p.point())
	wanted := k.turned(p)
	wantPoint(t, "turned over"+briefRings(k)+" "+briefPoint(p.point()), got, e, wanted)
	switch {
	case !wanted.fits():
		return "ErrBig"
	case wanted.inf:
		return "infinity"
	case got == p.point():
		return "stays"
	}
	return "goes"
}

func TestPoint(t *testing.T) { // P14.1
	seen := tally{}
	for _, k := range rings() {
		for _, p := range spots() {
			seen[wantTurned(t, k, p)]++
		}
		if !k.line() {
			seen[wantTurned(t, k, at(k.centre()))]++
		}
	}
	seen.least(t, 50, "ErrBig", "infinity", "stays", "goes")
}

func TestPointExamples(t *testing.T) { // P14.1
	for _, x := range []struct {
		k    ring
		p, q spot
	}{
		{unit(), on(2, 0), at(real(rat(1, 2)))}, {unit(), on(0, 0), far()}, {unit(), far(), on(0, 0)}, {reals(), on(1, 1), on(1, -1)}, {unit(), on(0, 1), on(0, 1)},
		{unit(), on(1, 1), at(num{rat(1, 2), rat(1, 2)})}, {unit(), at(num{rat(3, 5), rat(-4, 5)}), at(num{rat(3, 5), rat(-4, 5)})},
		{reals(), far(), far()}, {reals(), on(7, 0), on(7, 0)}, {reals(), on(0, 0), on(0, 0)}, {ups(), on(3, 4), on(-3, 4)}, {high(), on(5, 0), on(5, 2)}, {beside(rat(1, 1)), on(0, 3), on(2, 3)}, {ringed(0, 1, 1, 0), on(2, 5), on(5, 2)},
		{o(1, 1, 2), on(1, 1), far()}, {o(1, 1, 2), far(), on(1, 1)}, {o(1, 1, 2), on(3, 1), on(3, 1)}, {o(1, 1, 2), on(5, 1), on(2, 1)}, {o(1, 1, 2), on(1, 2), on(1, 5)}, {o(0, 0, 5), on(3, 4), on(3, 4)},
	} {
		got, e := invert.Point(x.k.circle(), x.p.point())
		wantPoint(t, "turned over"+briefRings(x.k)+" "+briefPoint(x.p.point()), got, e, x.q)
	}
}

// What is refused is the point that comes out, not the turning.
func TestPointAtTheBound(t *testing.T) { // P14.1
	most, least := ofInt(top()), under(top())
	r := rand.New(rand.NewSource(1411))
	slope := ofInt(less(top(), 1))
	wide := fullRing(r, api.MaxWhole)
	for _, x := range []struct {
		k    ring
		p    spot
		want string
	}{
		{steep(), far(), "infinity"}, {steep(), on(0, 0), "stays"}, {steep(), at(num{slope, rat(1, 1)}), "stays"}, {steep(), at(num{rat(1, 1), quo(rat(1, 1), slope)}), "stays"},
		{steep(), on(1, 0), "ErrBig"}, {steep(), at(num{rat(1, 1), opposite(slope)}), "goes"}, {steep(), at(num{rat(-3, 1), times(rat(3, 1), quo(slope, rat(6, 1)))}), "ErrBig"},
		{unit(), at(real(most)), "goes"}, {unit(), at(num{none(), least}), "goes"}, {unit(), at(num{rat(1, 1), most}), "ErrBig"}, {unit(), at(num{least, least}), "goes"}, {unit(), at(num{least, under(less(top(), 1))}), "ErrBig"},
		{o(0, 0, 2), at(real(least)), "ErrBig"}, {o(0, 0, 2), at(real(most)), "goes"},
		{beside(quo(most, rat(2, 1))), on(0, 1), "goes"}, {beside(quo(most, rat(2, 1))), on(-1, 1), "ErrBig"}, {beside(quo(most, rat(-2, 1))), on(1, 1), "ErrBig"},
		{wide, far(), "goes"}, {wide, at(wide.centre()), "infinity"}, {wide, on(0, 0), "ErrBig"},
	} {
		if got := wantTurned(t, x.k, x.p); got != x.want {
			t.Errorf("turned over%s %s: %s, want %s", briefRings(x.k), briefPoint(x.p.point()), got, x.want)
		}
	}
	round, lined := tally{}, tally{}
	for n := range 60 {
		p, k := at(fullNum(r, 109+n/6)), fullRing(r, 109+n/6)
		round.fit(k.turned(p).fits())
		wantTurned(t, k, p)
		p, k = at(fullNum(r, 200+n/6)), fullLine(r, 200+n/6)
		lined.fit(k.turned(p).fits())
		wantTurned(t, k, p)
	}
	round.least(t, 3, "fits", "too big")
	lined.least(t, 3, "fits", "too big")
}

func wantImage(t *testing.T, k, l ring) string {
	t.Helper()
	got, e := invert.Circle(k.circle(), l.circle())
	wanted := k.image(l)
	want(t, "turned over the first, of"+briefRings(k, l)+" the second", got, e, wanted)
	switch {
	case !wanted.fits():
		return "ErrBig"
	case wanted.same(l):
		return "stays"
	case wanted.line():
		return "line"
	}
	return "round"
}

func TestCircle(t *testing.T) { // P14.1
	seen := tally{}
	pairs(func(k, l ring) { seen[wantImage(t, k, l)]++ })
	seen.least(t, 20, "ErrBig", "stays", "line", "round")
}

func TestCircleExamples(t *testing.T) { // P14.1
	half := about(real(rat(1, 2)), rat(1, 4))
	for _, x := range []struct{ k, l, want ring }{
		{unit(), beside(rat(1, 1)), half}, {unit(), half, beside(rat(1, 1))}, {unit(), unit(), unit()}, {reals(), reals(), reals()}, {unit(), reals(), reals()}, {reals(), unit(), unit()},
		{o(0, 0, 2), o(0, 0, 4), o(0, 0, 1)}, {unit(), o(2, 0, 1), about(real(rat(2, 3)), rat(1, 9))}, {unit(), high(), about(num{none(), rat(1, 2)}, rat(1, 4))},
		{reals(), high(), ringed(0, 0, 1, -2)}, {high(), reals(), ringed(0, 0, 1, 4)}, {reals(), o(3, 1, 2), o(3, -1, 2)}, {ringed(0, 1, 1, 0), ups(), reals()}, {ups(), beside(rat(1, 1)), beside(rat(-1, 1))},
		{o(0, 0, 3), o(5, 0, 4), o(5, 0, 4)}, {o(1, 1, 2), o(1, 1, 1), o(1, 1, 4)},
	} {
		got, e := invert.Circle(x.k.circle(), x.l.circle())
		want(t, "turned over the first, of"+briefRings(x.k, x.l)+" the second", got, e, x.want)
	}
}

func TestCircleAtTheBound(t *testing.T) { // P14.1
	most := ofInt(top())
	lined := func(c *big.Rat) ring { return ring{none(), in(1, 0), c} }
	edge := ofInt(twos(8*api.MaxWhole - 1))
	for _, x := range []struct {
		k, l ring
		want string
	}{
		{steep(), steep(), "stays"}, {steep(), unit(), "stays"}, {steep(), o(0, 0, 7), "stays"}, {steep(), upon(steep().b.conj().quarter(), in(0, 0)), "stays"}, {steep(), o(1, 0, 1), "ErrBig"}, {steep(), reals(), "ErrBig"},
		{unit(), steep(), "stays"}, {longs()[0], longs()[0], "stays"}, {longs()[1], longs()[1], "stays"}, {longs()[0], longs()[2], "ErrBig"}, {longs()[5], longs()[6], "ErrBig"}, {unit(), longs()[5], "round"},
		{lined(edge), lined(none()), "ErrBig"}, {lined(edge), lined(rat(1, 1)), "line"}, {lined(opposite(edge)), lined(rat(-1, 1)), "line"}, {lined(most), lined(most), "stays"}, {lined(most), reals(), "stays"},
		{unit(), lined(most), "round"}, {unit(), lined(under(top())), "round"}, {o(0, 0, 2), lined(under(top())), "ErrBig"},
	} {
		if got := wantImage(t, x.k, x.l); got != x.want {
			t.Errorf("turned over the first, of%s the second: %s, want %s", briefRings(x.k, x.l), got, x.want)
		}
	}
	r := rand.New(rand.NewSource(1412))
	seen := tally{}
	for n := range 60 {
		k, l := fullRing(r, 60+n), fullRing(r, 60+n)
		seen.fit(k.image(l).fits())
		wantImage(t, k, l)
	}
	seen.least(t, 3, "fits", "too big")
}

func TestOverPointCircleRefuse(t *testing.T) { // P14.1
	for _, c := range wrongCircles() {
		m, e := invert.Over(c)
		wantNone(t, "the turning over a wrong circle", m, e, api.ErrArg)
		for _, p := range append(wrongPoints()[:4], far().point(), on(1, 2).point(), at(real(ofInt(top()))).point()) {
			q, e := invert.Point(c, p)
			wantNone(t, "turned over a wrong circle a point", q, e, api.ErrArg)
		}
		for _, d := range []api.Circle{unit().circle(), reals().circle(), longs()[0].circle(), {}, c} {
			x, e := invert.Circle(c, d)
			wantNone(t, "turned over a wrong circle another one", x, e, api.ErrArg)
			x, e = invert.Circle(d, c)
			wantNone(t, "a wrong circle turned over another one", x, e, api.ErrArg)
		}
	}
	for _, p := range wrongPoints() {
		for _, k := range []ring{unit(), reals(), steep(), longs()[0]} {
			q, e := invert.Point(k.circle(), p)
			wantNone(t, "a wrong point turned over", q, e, api.ErrArg)
		}
	}
}
