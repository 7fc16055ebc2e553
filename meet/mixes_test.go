package meet_test

import (
	"math/big"
	"math/rand"
	"testing"

	"tracery/api"
	"tracery/meet"
)

// wantMix wants what the chapter says of a mix, and answers which of its cases
// it was.
func wantMix(t *testing.T, k, l ring, by, and *big.Rat) string {
	t.Helper()
	got, e := meet.Mix(k.circle(), l.circle(), fraction(by), fraction(and))
	what := "the mix of" + briefRings(k, l) + " by " + briefFrac(fraction(by)) + " and " + briefFrac(fraction(and))
	m := mix(k, l, by, and)
	if m.empty() {
		wantNone(t, what, got, e, api.ErrNone)
		return "ErrNone"
	}
	want(t, what, got, e, m.formed())
	switch {
	case !m.formed().fits():
		return "ErrBig"
	case m.line():
		return "line"
	}
	return "round"
}

func TestMix(t *testing.T) { // P13.3
	seen := tally{}
	n := 0
	r := rand.New(rand.NewSource(1330))
	bys := []*big.Rat{none(), rat(1, 1), rat(-1, 1), rat(2, 1), rat(1, 2), rat(-3, 2), rat(-5, 7)}
	pairs(func(k, l ring) {
		n++
		seen[wantMix(t, k, l, bys[n%7], bys[n/7%7])]++
		seen[wantMix(t, k, l, odd(r, 2), odd(r, 2))]++
	})
	seen.least(t, 100, "ErrNone", "line", "round")
	for _, k := range append(grains(), longs()...) {
		for _, by := range bys {
			for _, and := range bys {
				wanted := "ErrNone"
				if plus(by, and).Sign() != 0 {
					wanted = map[bool]string{true: "line", false: "round"}[k.line()]
				}
				if got := wantMix(t, k, k, by, and); got != wanted {
					t.Fatalf("the mix of%s and itself: %s, want %s", briefRings(k), got, wanted)
				}
			}
		}
	}
}

func TestMixExamples(t *testing.T) { // P13.3
	for _, x := range []struct {
		k, l    ring
		by, and *big.Rat
		want    ring
	}{
		{o(0, 0, 1), o(2, 0, 1), rat(1, 1), rat(-1, 1), beside(rat(1, 1))}, {o(0, 0, 1), o(2, 0, 1), rat(-7, 3), rat(7, 3), beside(rat(1, 1))},
		{o(0, 0, 1), o(2, 0, 1), rat(1, 1), none(), o(0, 0, 1)}, {o(0, 0, 1), o(2, 0, 1), none(), rat(-2, 5), o(2, 0, 1)},
		{o(0, 0, 1), reals(), rat(1, 1), rat(1, 1), ringed(1, 0, 1, -1)}, {o(0, 0, 1), reals(), rat(2, 1), rat(-3, 1), ring{rat(1, 1), num{none(), rat(-3, 2)}, rat(-1, 1)}},
		{reals(), ups(), rat(2, 1), rat(3, 1), ring{none(), num{rat(1, 1), rat(2, 3)}, none()}}, {reals(), ups(), rat(-2, 1), none(), reals()}, {ups(), beside(rat(1, 1)), rat(1, 1), rat(1, 1), beside(rat(1, 2))},
		{o(0, 0, 1), o(0, 0, 2), rat(5, 1), rat(-1, 1), ring{rat(1, 1), in(0, 0), rat(-1, 4)}}, {o(0, 0, 1), o(0, 0, 2), rat(1, 1), rat(1, 1), ring{rat(1, 1), in(0, 0), rat(-5, 2)}},
	} {
		got, e := meet.Mix(x.k.circle(), x.l.circle(), fraction(x.by), fraction(x.and))
		want(t, "a mix", got, e, x.want)
		got, e = meet.Mix(x.l.circle(), x.k.circle(), fraction(x.and), fraction(x.by))
		want(t, "a mix the other way round", got, e, x.want)
	}
	for _, x := range []struct {
		k, l    ring
		by, and *big.Rat
	}{
		{o(0, 0, 1), o(2, 0, 1), none(), none()}, {o(0, 0, 1), o(0, 0, 1), rat(1, 2), rat(-1, 2)}, {reals(), reals(), rat(-3, 1), rat(3, 1)}, {o(0, 0, 1), o(0, 0, 2), rat(1, 1), rat(-1, 1)},
		{o(0, 0, 1), o(0, 0, 2), rat(4, 1), rat(-1, 1)}, // its power is 0
		{o(0, 0, 1), o(0, 0, 2), rat(3, 1), rat(-1, 1)}, // below 0
		{o(0, 0, 1), o(2, 0, 1), rat(1, 1), rat(1, 1)}, {ups(), beside(rat(1, 1)), rat(1, 1), rat(-1, 1)},
	} {
		got, e := meet.Mix(x.k.circle(), x.l.circle(), fraction(x.by), fraction(x.and))
		wantNone(t, "a mix that is no circle", got, e, api.ErrNone)
	}
}

func TestMixAtTheBound(t *testing.T) { // P13.3
	most, least, line := ofInt(top()), under(top()), ups()
	for _, x := range []struct {
		k, l    ring
		by, and *big.Rat
		want    string
	}{
		{unit(), line, rat(1, 1), most, "round"}, {unit(), line, rat(1, 2), most, "ErrBig"}, {unit(), line, rat(2, 1), least, "ErrBig"}, {unit(), line, most, most, "round"}, {unit(), line, least, opposite(least), "round"},
		{unit(), line, least, most, "ErrBig"}, {unit(), line, most, least, "ErrBig"}, {unit(), unit(), most, least, "round"}, {unit(), unit(), most, opposite(most), "ErrNone"},
		{o(0, 0, 1), o(0, 0, 2), opposite(most), most, "ErrNone"}, {o(0, 0, 1), o(0, 0, 2), most, opposite(least), "ErrBig"}, {o(0, 0, 1), o(0, 0, 2), least, opposite(most), "ErrBig"}, {o(0, 0, 1), o(0, 0, 2), rat(3, 1), opposite(minus(rat(1, 1), least)), "ErrNone"},
		{longs()[0], longs()[0], most, least, "round"}, {longs()[0], longs()[2], none(), most, "round"}, {longs()[0], longs()[2], least, none(), "round"}, {longs()[0], longs()[2], least, rat(1, 1), "ErrBig"},
		{about(in(0, 0), most), about(in(0, 0), rat(1, 1)), rat(1, 1), rat(-1, 1), "ErrNone"},
	} {
		if got := wantMix(t, x.k, x.l, x.by, x.and); got != x.want {
			t.Errorf("the mix of%s: %s, want %s", briefRings(x.k, x.l), got, x.want)
		}
	}
	r := rand.New(rand.NewSource(1331))
	seen := tally{}
	for n := range 60 {
		seen[wantMix(t, fullRing(r, 251+n/6), fullRing(r, 251+n/6), full(r, 251+n/6), full(r, 251+n/6))]++
	}
	seen.least(t, 3, "round", "ErrBig")
}

func TestMixRefuses(t *testing.T) { // P13.3
	refused := func(c, d api.Circle, s, u api.Frac) {
		t.Helper()
		got, e := meet.Mix(c, d, s, u)
		wantNone(t, "a mix of what may not be", got, e, api.ErrArg)
	}
	one, zero, most := over(1, 1), over(0, 1), fraction(ofInt(top()))
	for _, c := range wrongCircles() {
		for _, d := range []api.Circle{unit().circle(), reals().circle(), c} {
			for _, s := range []api.Frac{one, zero, most, {}} {
				refused(c, d, s, one)
				refused(d, c, one, s)
				refused(c, d, s, s)
			}
		}
	}
	for _, x := range wrongFracs() {
		for _, d := range []api.Circle{unit().circle(), reals().circle()} {
			for _, s := range []api.Frac{one, zero, most, x} {
				refused(d, d, x, s)
				refused(unit().circle(), d, s, x)
			}
		}
	}
}

// wantAxis wants what the chapter says: of circles the line on which both have
// the same value.
func wantAxis(t *testing.T, k, l ring) string {
	t.Helper()
	got, e := meet.Axis(k.circle(), l.circle())
	what := "the axis of" + briefRings(k, l)
	var line ring
	switch {
	case k.line() && l.line():
		wantNone(t, what, got, e, api.ErrNone)
		return "ErrNone of lines"
	case k.line():
		line = k
	case l.line():
		line = l
	case k.centre().minus(l.centre()).zero():
		wantNone(t, what, got, e, api.ErrNone)
		return "ErrNone of one centre"
	default:
		line = ring{none(), k.b.minus(l.b), minus(k.c, l.c)}.formed()
	}
	want(t, what, got, e, line)
	if !line.fits() {
		return "ErrBig"
	}
	return "line"
}

func TestAxis(t *testing.T) { // P13.3
	seen := tally{}
	pairs(func(k, l ring) { seen[wantAxis(t, k, l)]++ })
	seen.least(t, 20, "ErrNone of lines", "ErrNone of one centre", "line")
}

func TestAxisExamples(t *testing.T) { // P13.3
	for _, x := range []struct{ k, l, want ring }{
		{o(0, 0, 1), o(2, 0, 1), beside(rat(1, 1))}, {o(0, 0, 5), o(6, 0, 5), beside(rat(3, 1))}, {o(0, 0, 1), o(0, 4, 1), ringed(0, 0, 1, 4)}, {o(0, 0, 1), o(4, 0, 3), beside(rat(1, 1))},
		{o(0, 0, 1), reals(), reals()}, {beside(rat(9, 1)), o(0, 0, 1), beside(rat(9, 1))}, {o(1, 1, 1), o(0, 0, 1), ringed(0, 1, -1, -2)},
	} {
		got, e := meet.Axis(x.k.circle(), x.l.circle())
		want(t, "the axis of"+briefRings(x.k, x.l), got, e, x.want)
		got, e = meet.Axis(x.l.circle(), x.k.circle())
		want(t, "the axis of"+briefRings(x.l, x.k), got, e, x.want)
	}
	for _, x := range [][2]ring{{o(0, 0, 1), o(0, 0, 2)}, {o(0, 0, 1), o(0, 0, 1)}, {reals(), reals()}, {reals(), ups()}, {ups(), beside(rat(1, 1))}, {longs()[0], longs()[0]}, {longs()[1], longs()[3]}} {
		got, e := meet.Axis(x[0].circle(), x[1].circle())
		wantNone(t, "the axis of"+briefRings(x[0], x[1]), got, e, api.ErrNone)
	}
}

func TestAxisAtTheBound(t *testing.T) { // P13.3
	bound := ofInt(edge())
	sized := func(re, im, c *big.Rat) ring { return ring{rat(1, 1), num{re, im}, c} }
	for _, x := range []struct {
		k, l ring
		want string
	}{
		{unit(), sized(rat(1, 2), none(), opposite(bound)), "line"}, {unit(), sized(rat(1, 2), none(), opposite(plus(bound, rat(1, 1)))), "ErrBig"},
		{unit(), sized(none(), rat(1, 2), opposite(bound)), "line"}, {unit(), sized(none(), rat(1, 2), opposite(plus(bound, rat(1, 1)))), "ErrBig"},
		{unit(), sized(rat(1, 1), none(), opposite(ofInt(top()))), "line"}, {ringed(1, 0, 0, -2), sized(rat(1, 2), bound, none()), "ErrBig"}, {ringed(1, 0, 0, -2), sized(rat(1, 2), minus(bound, rat(1, 1)), none()), "line"},
		{longs()[0], longs()[1], "line"}, {longs()[0], longs()[2], "ErrBig"}, {longs()[5], longs()[6], "ErrNone of one centre"},
	} {
		if got := wantAxis(t, x.k, x.l); got != x.want {
			t.Errorf("the axis of%s: %s, want %s", briefRings(x.k, x.l), got, x.want)
		}
		if got := wantAxis(t, x.l, x.k); got != x.want {
			t.Errorf("the axis of%s: %s, want %s", briefRings(x.l, x.k), got, x.want)
		}
	}
	r := rand.New(rand.NewSource(1332))
	seen := tally{}
	for n := range 60 {
		seen[wantAxis(t, fullRing(r, 251+n/6), fullRing(r, 251+n/6))]++
	}
	seen.least(t, 3, "line", "ErrBig")
}

func wantOver(t *testing.T, k, l ring) string {
	t.Helper()
	got, e := meet.Over(k.circle(), l.circle())
	wanted := turnedOver(k, l)
	want(t, "turned over the first, of"+briefRings(k, l)+" the second", got, e, wanted)
	if !wanted.fits() {
		return "ErrBig"
	}
	return "fits"
}

func TestOver(t *testing.T) { // P13.5
	seen := tally{}
	pairs(func(k, l ring) { seen[wantOver(t, k, l)]++ })
	seen.least(t, 500, "fits")
	seen.least(t, 20, "ErrBig")
}

func TestOverExamples(t *testing.T) { // P13.5
	half := ring{rat(1, 1), num{rat(-1, 2), none()}, none()} // about 1/2, with the radius 1/2
	for _, x := range []struct{ k, l, want ring }{
		{o(0, 0, 1), beside(rat(1, 1)), half}, {o(0, 0, 1), half, beside(rat(1, 1))}, {o(0, 0, 1), o(0, 0, 1), o(0, 0, 1)}, {o(0, 0, 1), reals(), reals()}, {o(0, 0, 1), ups(), ups()},
		{o(0, 0, 2), o(0, 0, 4), o(0, 0, 1)}, {o(0, 0, 1), about(in(2, 0), rat(1, 1)), about(num{rat(2, 3), none()}, rat(1, 9))},
		{ups(), o(3, 1, 2), o(-3, 1, 2)}, {reals(), o(3, 1, 2), o(3, -1, 2)}, {ups(), beside(rat(1, 1)), beside(rat(-1, 1))}, {beside(rat(1, 1)), ups(), beside(rat(2, 1))}, {ringed(0, 1, 1, 0), ups(), reals()}, {reals(), reals(), reals()},
		{o(0, 0, 3), o(5, 0, 4), o(5, 0, 4)}, // upright
	} {
		got, e := meet.Over(x.k.circle(), x.l.circle())
		want(t, "turned over the first, of"+briefRings(x.k, x.l)+" the second", got, e, x.want)
	}
}

func TestOverAtTheBound(t *testing.T) { // P13.5
	bound, most := ofInt(edge()), ofInt(top())
	lined := func(c *big.Rat) ring { return ring{none(), in(1, 0), c} }
	for _, x := range []struct {
		k, l ring
		want string
	}{
		{lined(bound), lined(none()), "ErrBig"}, {lined(bound), lined(rat(1, 1)), "fits"}, {lined(opposite(bound)), lined(rat(-1, 1)), "fits"}, {lined(opposite(bound)), lined(none()), "ErrBig"},
		{lined(most), lined(most), "fits"}, {lined(most), reals(), "fits"}, {unit(), lined(most), "fits"}, {unit(), lined(under(top())), "fits"},
		{longs()[0], longs()[0], "fits"}, {longs()[0], longs()[2], "ErrBig"}, {longs()[5], longs()[6], "ErrBig"}, {unit(), longs()[5], "fits"},
	} {
		if got := wantOver(t, x.k, x.l); got != x.want {
			t.Errorf("turned over the first, of%s the second: %s, want %s", briefRings(x.k, x.l), got, x.want)
		}
	}
	r := rand.New(rand.NewSource(1350))
	seen := tally{}
	for n := range 60 {
		seen[wantOver(t, fullRing(r, 60+n), fullRing(r, 60+n))]++
	}
	seen.least(t, 3, "fits", "ErrBig")
}

func TestAxisAndOverRefuse(t *testing.T) { // P13.3, P13.5
	good := []api.Circle{unit().circle(), reals().circle(), longs()[0].circle(), {}}
	refused := func(c, d api.Circle) {
		t.Helper()
		got, e := meet.Axis(c, d)
		wantNone(t, "the axis of wrong circles", got, e, api.ErrArg)
		got, e = meet.Over(c, d)
		wantNone(t, "a wrong circle turned over", got, e, api.ErrArg)
	}
	for _, c := range wrongCircles() {
		refused(c, c)
		for _, d := range good {
			refused(c, d)
			refused(d, c)
		}
	}
}
