package invert_test

import (
	"math/rand"
	"testing"

	"tracery/api"
	"tracery/invert"
)

func wantCommon(t *testing.T, k, l ring, p spot) string {
	t.Helper()
	got, e := invert.Common(k.circle(), l.circle(), p.point())
	what := "through " + briefPoint(p.point()) + " at right angles to" + briefRings(k, l)
	m, one := common(k, l, p)
	if !one {
		wantNone(t, what, got, e, api.ErrNone)
		return "ErrNone"
	}
	want(t, what, got, e, m)
	switch {
	case !m.fits():
		return "ErrBig"
	case m.line():
		return "line"
	}
	return "round"
}

func TestCommon(t *testing.T) { // P14.5
	seen := tally{}
	points, n := spots(), 0
	pairs(func(k, l ring) {
		n++
		seen[wantCommon(t, k, l, points[n%len(points)])]++
		seen[wantCommon(t, k, l, points[n*7%len(points)])]++
		if k.same(l) {
			seen["of one circle"]++
		}
	})
	seen.least(t, 50, "ErrNone", "ErrBig", "line", "round", "of one circle")
	for k, c := range grains() {
		for l, d := range grains() {
			if (k+l)%7 == 0 {
				wantCommon(t, c, d, on(1, 0))
				wantCommon(t, c, d, on(0, 0))
				wantCommon(t, c, d, far())
			}
		}
	}
}

func TestCommonExamples(t *testing.T) { // P14.5
	near, wide := about(in(2, 0), rat(3, 1)), about(in(-3, 0), rat(8, 1)) // at right angles to what goes through 1 and -1
	for _, x := range []struct {
		k, l ring
		p    spot
		want ring
	}{
		{unit(), reals(), on(2, 0), about(real(rat(5, 4)), rat(9, 16))}, {unit(), o(0, 0, 2), on(1, 1), ringed(0, 1, 1, 0)}, {unit(), o(0, 0, 2), on(1, -1), ringed(0, 1, -1, 0)},
		{unit(), o(0, 0, 2), on(1, 0), reals()}, {unit(), o(0, 0, 2), on(0, -2), ups()}, // the point on one of them
		{reals(), high(), on(7, 3), beside(rat(7, 1))}, {reals(), high(), on(7, 0), beside(rat(7, 1))}, {reals(), high(), on(7, 1), beside(rat(7, 1))},
		{reals(), ups(), on(3, 4), o(0, 0, 5)}, {reals(), ups(), on(5, 0), o(0, 0, 5)}, {unit(), reals(), far(), ups()}, {unit(), reals(), on(0, 0), ups()}, {unit(), reals(), on(0, 3), ups()}, {unit(), reals(), on(0, 1), ups()},
		{unit(), reals(), at(num{rat(3, 5), rat(4, 5)}), ring{rat(1, 1), num{rat(-5, 3), none()}, rat(1, 1)}}, {unit(), beside(rat(1, 1)), on(3, 0), reals()}, {unit(), beside(rat(1, 1)), far(), reals()},
		{unit(), o(4, 0, 1), far(), reals()}, {unit(), o(4, 0, 1), on(2, 2), about(num{rat(2, 1), rat(1, 4)}, rat(49, 16))},
		{near, wide, on(0, 1), unit()}, {near, wide, on(0, -1), unit()}, {near, wide, far(), reals()}, {near, wide, on(5, 0), reals()}, {near, wide, on(0, 2), about(num{none(), rat(3, 4)}, rat(25, 16))},
	} {
		got, e := invert.Common(x.k.circle(), x.l.circle(), x.p.point())
		want(t, "through "+briefPoint(x.p.point())+" at right angles to"+briefRings(x.k, x.l), got, e, x.want)
		got, e = invert.Common(x.l.circle(), x.k.circle(), x.p.point())
		want(t, "through "+briefPoint(x.p.point())+" at right angles to"+briefRings(x.l, x.k), got, e, x.want)
	}
}

func TestCommonNone(t *testing.T) { // P14.5
	near, wide := about(in(2, 0), rat(3, 1)), about(in(-3, 0), rat(8, 1))
	for _, x := range []struct {
		k, l ring
		p    spot
	}{
		{unit(), unit(), on(3, 0)}, {unit(), unit(), on(1, 0)}, {unit(), unit(), on(0, 0)}, {unit(), unit(), far()}, {reals(), reals(), on(0, 1)}, {reals(), reals(), on(0, 0)}, {reals(), reals(), far()}, // the same twice
		{unit(), o(0, 0, 2), on(0, 0)}, {unit(), o(0, 0, 2), far()}, {o(3, 4, 1), o(3, 4, 9), on(3, 4)}, {reals(), high(), far()}, {near, wide, on(1, 0)}, {near, wide, on(-1, 0)}, // many: about one centre, side by side, apart
		{unit(), beside(rat(1, 1)), on(1, 0)}, {unit(), o(2, 0, 1), on(1, 0)}, {o(0, 0, 2), o(1, 0, 1), on(2, 0)}, // many: where they touch
		{reals(), ups(), on(0, 0)}, {reals(), ups(), far()}, {unit(), reals(), on(1, 0)}, {unit(), reals(), on(-1, 0)}, {o(0, 0, 5), o(6, 0, 5), on(3, 4)}, {ringed(0, 1, 1, 0), ringed(0, 1, 2, 0), on(0, 0)}, // none: where they cross
	} {
		for _, l := range [][2]ring{{x.k, x.l}, {x.l, x.k}} {
			got, e := invert.Common(l[0].circle(), l[1].circle(), x.p.point())
			wantNone(t, "through "+briefPoint(x.p.point())+" at right angles to"+briefRings(l[:]...), got, e, api.ErrNone)
		}
	}
}

func TestCommonAtTheBound(t *testing.T) { // P14.5
	most := ofInt(top())
	upright := upon(steep().b.conj().quarter(), in(0, 0))
	long := longs()
	for _, x := range []struct {
		k, l ring
		p    spot
		want string
	}{
		{long[0], long[0], on(1, 1), "ErrNone"}, {long[0], long[0], far(), "ErrNone"}, {long[1], long[1], at(num{most, under(top())}), "ErrNone"}, {long[0], long[2], on(1, 1), "ErrBig"}, {long[1], long[3], on(0, 0), "ErrBig"}, {long[1], long[3], far(), "ErrNone"}, // two lines cross there
		{long[5], long[6], on(0, 0), "ErrNone"}, {long[5], long[6], far(), "ErrNone"}, {long[5], long[6], on(3, 1), "line"}, {long[5], long[6], at(num{rat(1, 1), most}), "line"}, {long[10], long[11], at(num{most, under(top())}), "line"}, {long[10], long[11], far(), "ErrNone"},
		{steep(), upright, on(0, 0), "ErrNone"}, {steep(), upright, far(), "ErrNone"}, {steep(), upright, on(1, 0), "round"}, {steep(), upright, at(real(most)), "ErrBig"}, {steep(), unit(), far(), "line"}, {steep(), unit(), on(0, 0), "line"}, {steep(), unit(), on(1, 0), "round"}, {steep(), unit(), on(2, 0), "ErrBig"},
		{reals(), ups(), at(real(ofInt(less(root(), 1)))), "round"}, {reals(), ups(), at(real(ofInt(root()))), "ErrBig"}, {reals(), ups(), at(num{none(), under(root())}), "ErrBig"},
		{reals(), unit(), at(real(most)), "ErrBig"}, {unit(), beside(rat(1, 1)), at(real(most)), "line"}, {reals(), high(), at(num{most, under(top())}), "ErrBig"}, {reals(), high(), at(num{quo(most, rat(2, 1)), under(top())}), "line"},
	} {
		if got := wantCommon(t, x.k, x.l, x.p); got != x.want {
			t.Errorf("through %s at right angles to%s: %s, want %s", briefPoint(x.p.point()), briefRings(x.k, x.l), got, x.want)
		}
	}
	r := rand.New(rand.NewSource(1450))
	round, lined := tally{}, tally{}
	for n := range 80 {
		round[wantCommon(t, fullRing(r, 98+n/8), fullRing(r, 98+n/8), at(fullNum(r, 98+n/8)))]++
		lined[wantCommon(t, fullRing(r, 252+n/8), fullRing(r, 252+n/8), far())]++
	}
	round.least(t, 3, "round", "ErrBig")
	lined.least(t, 3, "line", "ErrBig")
}

func TestCommonRefuses(t *testing.T) { // P14.5
	u, one := unit().circle(), on(1, 0).point()
	refused := func(c, d api.Circle, p api.Point) {
		t.Helper()
		got, e := invert.Common(c, d, p)
		wantNone(t, "what may not be", got, e, api.ErrArg)
	}
	for _, c := range wrongCircles() {
		for _, d := range []api.Circle{u, reals().circle(), longs()[0].circle(), {}, c} {
			refused(c, d, one)
			refused(d, c, far().point())
			refused(d, c, api.Point{})
		}
	}
	for _, p := range wrongPoints() {
		refused(u, reals().circle(), p)
		refused(u, u, p) // ahead of there being none
		refused(longs()[0].circle(), longs()[2].circle(), p)
	}
}
