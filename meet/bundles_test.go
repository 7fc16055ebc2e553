package meet_test

import (
	"math/big"
	"math/rand"
	"testing"

	"tracery/api"
	"tracery/meet"
)

// wantThree wants what the chapter says of three circles, and answers which of
// Across's cases it was.
func wantThree(t *testing.T, k, l, m ring) string {
	t.Helper()
	c, d, e, what := k.circle(), l.circle(), m.circle(), briefRings(k, l, m)
	up, one := uprightOn(k, l, m)
	if in, wrong := meet.Bundle(c, d, e); in == one || wrong != api.OK {
		t.Fatalf("%s are of one bundle: %v, %v", what, in, wrong)
	}
	got, wrong := meet.Across(c, d, e)
	switch {
	case !one:
		wantNone(t, "upright on"+what, got, wrong, api.ErrNone)
		return "bundle"
	case up.empty():
		wantNone(t, "upright on"+what, got, wrong, api.ErrNone)
		return "none"
	}
	want(t, "upright on"+what, got, wrong, up.formed())
	switch {
	case !up.formed().fits():
		return "ErrBig"
	case up.line():
		return "line"
	}
	return "round"
}

func TestThree(t *testing.T) { // P13.4
	seen := tally{}
	threes(func(k, l, m ring) { seen[wantThree(t, k, l, m)]++ })
	seen.least(t, 40, "bundle", "none", "line", "round")
	seen.least(t, 3, "ErrBig")
}

func TestThreeExamples(t *testing.T) { // P13.4
	near := func(re, im int64) ring { return about(num{rat(re, 2), rat(im, 2)}, rat(1, 1)) }
	for _, x := range []struct {
		three [3]ring
		up    ring
		want  string
	}{
		{[3]ring{o(0, 0, 1), o(4, 0, 1), o(0, 4, 1)}, ringed(1, -2, 2, 1), "round"}, {[3]ring{ups(), reals(), ringed(1, 3, 0, 4)}, ringed(1, 0, 0, -4), "round"}, {[3]ring{ups(), reals(), o(0, 0, 1)}, ring{}, "none"},
		{[3]ring{o(0, 0, 1), o(4, 0, 1), o(9, 0, 2)}, reals(), "line"}, {[3]ring{o(0, 0, 1), o(3, 0, 1), ups()}, reals(), "line"},
		{[3]ring{o(0, 0, 1), o(2, 0, 1), beside(rat(1, 1))}, ring{}, "bundle"}, {[3]ring{o(0, 0, 1), o(0, 0, 2), o(0, 0, 3)}, ring{}, "bundle"}, {[3]ring{reals(), ups(), ringed(0, 1, 1, 0)}, ring{}, "bundle"}, {[3]ring{ups(), beside(rat(1, 1)), beside(rat(7, 3))}, ring{}, "bundle"},
		{[3]ring{o(0, 0, 1), o(0, 0, 1), o(0, 0, 1)}, ring{}, "bundle"}, {[3]ring{o(0, 0, 1), o(0, 0, 1), o(4, 0, 1)}, ring{}, "bundle"}, {[3]ring{reals(), reals(), o(0, 4, 1)}, ring{}, "bundle"},
		{[3]ring{o(0, 0, 5), o(6, 0, 5), beside(rat(3, 1))}, ring{}, "bundle"}, {[3]ring{o(0, 0, 5), o(6, 0, 5), about(in(3, 0), rat(16, 1))}, ring{}, "bundle"},
		{[3]ring{near(0, 0), near(1, 0), near(0, 1)}, ring{}, "none"},  // the centre would be inside all
		{[3]ring{reals(), ups(), ringed(0, 1, 1, 1)}, ring{}, "none"},  // they share infinity alone
		{[3]ring{o(1, 0, 1), o(0, 1, 1), o(-1, 0, 1)}, ring{}, "none"}, // they share 0 alone
	} {
		for _, order := range [][3]int{{0, 1, 2}, {0, 2, 1}, {1, 0, 2}, {1, 2, 0}, {2, 0, 1}, {2, 1, 0}} {
			k, l, m := x.three[order[0]], x.three[order[1]], x.three[order[2]]
			if got := wantThree(t, k, l, m); got != x.want {
				t.Errorf("upright on%s: %s, want %s", briefRings(k, l, m), got, x.want)
			}
			if x.want == "round" || x.want == "line" {
				got, e := meet.Across(k.circle(), l.circle(), m.circle())
				want(t, "upright on"+briefRings(k, l, m), got, e, x.up)
			}
		}
	}
}

func TestThreeAtTheBound(t *testing.T) { // P13.4
	most := ofInt(top())
	right := ring{none(), in(1, 0), opposite(most)} // Re z is half of the greatest
	sized := func(re, c *big.Rat) ring { return ring{rat(1, 1), real(re), c} }
	for _, x := range []struct {
		k, l, m ring
		want    string
	}{
		{right, reals(), sized(rat(-1, 1), none()), "round"}, {right, reals(), sized(rat(-1, 1), rat(-1, 1)), "ErrBig"}, {right, reals(), sized(rat(-2, 1), none()), "ErrBig"}, {right, reals(), sized(rat(1, 1), rat(-1, 1)), "round"},
		{reals(), ups(), sized(most, most), "round"}, {reals(), ups(), sized(most, under(top())), "round"}, {ringed(0, 1, 1, 0), reals(), sized(most, under(top())), "round"},
		// What is of one bundle, what nothing is upright on, stands ahead of ErrBig.
		{longs()[0], longs()[2], longs()[0], "bundle"}, {longs()[0], longs()[0], longs()[1], "bundle"}, {longs()[1], longs()[3], longs()[9], "none"}, {longs()[5], longs()[6], unit(), "bundle"}, {longs()[0], longs()[2], longs()[1], "ErrBig"},
	} {
		if got := wantThree(t, x.k, x.l, x.m); got != x.want {
			t.Errorf("upright on%s: %s, want %s", briefRings(x.k, x.l, x.m), got, x.want)
		}
		if got := wantThree(t, x.m, x.k, x.l); got != x.want {
			t.Errorf("upright on%s: %s, want %s", briefRings(x.m, x.k, x.l), got, x.want)
		}
	}
	r := rand.New(rand.NewSource(1340))
	seen := tally{}
	for n := range 80 {
		seen[wantThree(t, fullRing(r, 120+n/4), fullRing(r, 120+n/4), fullLine(r, 120+n/4))]++
	}
	seen.least(t, 3, "round", "ErrBig")
}

// A mix of long ones is of their bundle; beside it by the least bit it is not.
func TestBundleOfLongOnes(t *testing.T) { // P13.4
	r := rand.New(rand.NewSource(1341))
	for range 20 {
		k, l := fullRing(r, 250), fullRing(r, 250)
		m := mix(k, l, full(r, 250), full(r, 250))
		if m.empty() || !m.formed().fits() {
			continue
		}
		if got := wantThree(t, k, l, m.formed()); got != "bundle" {
			t.Fatalf("a mix and its circles: %s", got)
		}
		next := m.formed()
		next.c = new(big.Rat).SetFrac(new(big.Int).Sub(next.c.Num(), big.NewInt(1)), next.c.Denom())
		if got := wantThree(t, k, l, next); got == "bundle" {
			t.Fatalf("beside a mix, and its circles: %s", got)
		}
	}
}

func TestThreeRefuse(t *testing.T) { // P13.4
	refused := func(c, d, e api.Circle) {
		t.Helper()
		in, wrong := meet.Bundle(c, d, e)
		wantNone(t, "a bundle of wrong circles", in, wrong, api.ErrArg)
		got, wrong := meet.Across(c, d, e)
		wantNone(t, "upright on wrong circles", got, wrong, api.ErrArg)
	}
	for _, c := range wrongCircles() {
		refused(c, c, c)
		for _, d := range []api.Circle{unit().circle(), reals().circle(), {}} {
			e := o(4, 0, 1).circle()
			refused(c, d, e)
			refused(d, c, e)
			refused(d, e, c)
			refused(d, d, c)
			refused(c, d, d)
		}
	}
}
