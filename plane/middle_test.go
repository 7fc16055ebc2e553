package plane_test

import (
	"math/big"
	"math/rand"
	"testing"

	"tracery/api"
	"tracery/circ"
	"tracery/plane"
)

func wantMiddle(t *testing.T, seen tally, p api.Picture, z, w num) {
	t.Helper()
	what := "Middle of " + brief(z) + " and " + brief(w)
	got, e := plane.Middle(p, z.gauss(), w.gauss())
	if z.same(w) {
		seen["same"]++
		wantNone(t, what, got, e, api.ErrSame)
		return
	}
	k := middleOf(p, z, w)
	wantFit(t, seen, what, got, e, k.circle(), k.fits())
	seen.ring(k)
	seen.when("flat", k.flat())
	seen.when("round", !k.flat())
	if e == api.OK && (circ.Check(got) != api.OK || !k.right(edgeOf(p)) || !k.turned(z).same(w)) {
		t.Fatalf("%s is %s", what, brief(got))
	}
}

func TestMiddle(t *testing.T) { // P25.6
	for _, p := range pictures() {
		seen := tally{}
		pairs(p, func(z, w num) {
			wantMiddle(t, seen, p, z, w)
			if !lengthy(z, w) {
				wantMiddle(t, seen, p, w, z)
			}
		})
		seen.least(t, 20, "fits", "too big", "same", "flat", "round")
		if p == api.Upper {
			seen.least(t, 5, "c alone")
		}
	}
}

func TestMiddleByHand(t *testing.T) { // P25.6
	for _, x := range []struct {
		p    api.Picture
		z, w num
		want ring
	}{
		{api.Upper, in(0, 1), in(0, 4), ringed(1, 0, 0, -4)}, {api.Upper, in(0, 1), in(0, 2), ringed(1, 0, 0, -2)}, {api.Upper, in(5, 3), in(5, 12), about(in(5, 0), rat(36, 1))}, // one above the other
		{api.Upper, in(-1, 2), in(3, 2), beside(rat(1, 1))}, {api.Upper, parts(1, 3, 1, 9), parts(1, 2, 1, 9), beside(rat(5, 12))}, // at one height
		{api.Round, parts(1, 2, 0, 1), parts(-1, 2, 0, 1), beside(none())}, {api.Round, parts(1, 2, 0, 1), parts(0, 1, 1, 2), ringed(0, 1, 1, 0)}, {api.Round, parts(3, 10, 4, 10), parts(0, 1, -1, 2), ringed(0, 1, -3, 0)}, // as far from 0
		{api.Round, in(0, 0), parts(1, 2, 0, 1), ringed(1, -2, 0, 1)}, {api.Round, parts(0, 1, -1, 3), in(0, 0), ring{one(), in(0, -3), one()}},
	} {
		for range 2 {
			got, e := plane.Middle(x.p, x.z.gauss(), x.w.gauss())
			want(t, "Middle of "+brief(x.z)+" and "+brief(x.w), got, e, x.want.circle())
			x.z, x.w = x.w, x.z
		}
	}
}

func TestMiddleAtTheBound(t *testing.T) { // P25.6
	seen := tally{}
	for _, add := range []int64{-2, -1, 0, 1, 2} {
		m := ofInt(more(half(), add))
		tiny := new(big.Rat).Inv(m)
		n := ofInt(more(top(), add))
		for _, x := range []struct {
			p    api.Picture
			z, w num
		}{
			{api.Upper, num{none(), m}, num{none(), ofInt(half())}}, {api.Upper, num{none(), tiny}, num{none(), under(half())}}, {api.Upper, num{m, rat(2, 1)}, in(0, 1)}, {api.Upper, num{one(), m}, num{m, one()}},
			{api.Upper, num{n, one()}, in(0, 1)}, {api.Upper, num{n, one()}, in(-4, 1)}, {api.Upper, num{n, rat(2, 1)}, num{n, one()}}, {api.Upper, num{tiny, one()}, in(0, 2)},
			{api.Round, in(0, 0), real(tiny)}, {api.Round, in(0, 0), num{tiny, under(half())}}, {api.Round, num{tiny, none()}, num{none(), tiny}}, {api.Round, num{tiny, rat(1, 2)}, in(0, 0)}, {api.Round, num{rat(1, 2), tiny}, num{rat(1, 2), under(half())}},
		} {
			if x.z.fits() {
				wantMiddle(t, seen, x.p, x.z, x.w)
				wantMiddle(t, seen, x.p, x.w, x.z)
			}
		}
	}
	seen.least(t, 5, "fits", "too big", "c alone")
}

func wantAround(t *testing.T, seen tally, p api.Picture, z num, far *big.Rat) {
	t.Helper()
	k := aroundOf(p, z, far)
	got, e := plane.Around(p, z.gauss(), fraction(far))
	what := "Around " + brief(z) + " by " + brief(far)
	wantFit(t, seen, what, got, e, k.circle(), k.fits())
	seen.ring(k)
	if e == api.OK && circ.Check(got) != api.OK {
		t.Fatalf("%s is %s, which may not be", what, brief(got))
	}
}

// fars are some above 1: great ones, just above it, long ones.
func fars() []*big.Rat {
	r := rand.New(rand.NewSource(2620))
	l := []*big.Rat{rat(5, 4), rat(5, 3), rat(2, 1), rat(3, 2), rat(1001, 1000), rat(1000, 1), rat(256, 255), ofInt(top()), ratio(top(), more(top(), -1)), ofInt(half()), ratio(more(half(), 1), half()), ratio(top(), big.NewInt(2)), ratio(more(half(), -1), more(half(), -2))}
	for n := range 6 {
		l = append(l, plus(one(), ratio(some(r, 1+n*5), some(r, 1+n*5))))
	}
	return append(l, ratio(full(r, api.MaxWhole), full(r, 1000)), ratio(full(r, 500), full(r, 400)))
}

func TestAround(t *testing.T) { // P25.6
	for _, p := range pictures() {
		seen := tally{}
		for n, z := range points(p) {
			for m, far := range fars() {
				if (n+m)%3 == 0 || z.zero() || m < 2 {
					wantAround(t, seen, p, z, far)
				}
			}
		}
		r := rand.New(rand.NewSource(2630 + int64(p)))
		for n := range 60 {
			wantAround(t, seen, p, longPoint(r, p, 90+n*5), fars()[n%19])
		}
		seen.least(t, 40, "fits", "too big")
	}
}

// P25.6: just the points that are so far are on it.
func TestAroundHoldsWhatIsSoFar(t *testing.T) {
	for _, p := range pictures() {
		seen := tally{}
		near := grains(p)
		for n, z := range near {
			for m, w := range near {
				if z.same(w) {
					continue
				}
				far := farOf(p, z, w)
				c, e := plane.Around(p, z.gauss(), fraction(far))
				want(t, "Around", c, e, aroundOf(p, z, far).circle())
				x := near[(n*5+m*3)%len(near)]
				for _, q := range []num{w, x} {
					on, e := circ.On(c, api.Point{Z: q.gauss()})
					is := farOf(p, z, q).Cmp(far) == 0
					want(t, "On", on, e, is)
					seen.when("on it", is)
					seen.when("off it", !is)
				}
				// The circle is within the picture: its centre is, and the edge is off.
				k := aroundOf(p, z, far)
				if !within(p, k.centre()) || k.value(edgePoint(p)).Sign() <= 0 {
					t.Fatalf("%s is not within the picture", brief(k))
				}
			}
		}
		seen.least(t, 200, "on it", "off it")
	}
}

func edgePoint(p api.Picture) num {
	if p == api.Upper {
		return parts(1, 3, 0, 1)
	}
	return parts(3, 5, 4, 5)
}

func TestAroundByHand(t *testing.T) { // P25.6
	for _, x := range []struct {
		p    api.Picture
		z    num
		far  *big.Rat
		want ring
	}{
		{api.Upper, in(0, 1), rat(5, 4), ring{one(), parts(0, 1, 5, 4), one()}}, {api.Upper, in(3, 2), rat(5, 4), ring{one(), parts(-3, 1, 5, 2), rat(13, 1)}},
		{api.Round, in(0, 0), rat(5, 3), about(in(0, 0), rat(1, 4))}, {api.Round, in(0, 0), rat(5, 4), about(in(0, 0), rat(1, 9))}, {api.Round, in(0, 0), rat(3, 1), about(in(0, 0), rat(1, 2))},
	} {
		got, e := plane.Around(x.p, x.z.gauss(), fraction(x.far))
		want(t, "Around "+brief(x.z), got, e, x.want.circle())
	}
}

func TestAroundAtTheBound(t *testing.T) { // P25.6
	seen := tally{}
	for _, add := range []int64{-2, -1, 0, 1} {
		m := ofInt(more(half(), add))
		tiny := new(big.Rat).Inv(m)
		for _, x := range []struct {
			p   api.Picture
			z   num
			far *big.Rat
		}{
			{api.Upper, num{none(), m}, ofInt(half())}, {api.Upper, num{m, one()}, rat(2, 1)}, {api.Upper, num{none(), tiny}, rat(3, 2)}, {api.Upper, num{none(), one()}, plus(one(), quo(tiny, rat(4, 1)))}, {api.Upper, num{one(), m}, rat(2, 1)},
			{api.Upper, num{none(), quo(rat(1, 1), m)}, plus(one(), under(half()))},
			{api.Round, in(0, 0), plus(one(), tiny)}, {api.Round, in(0, 0), m}, {api.Round, real(tiny), rat(2, 1)}, {api.Round, num{tiny, tiny}, rat(5, 3)}, {api.Round, real(ratio(more(half(), add-3), half())), rat(2, 1)},
			{api.Round, in(0, 0), ofInt(more(past(), add-2))}, {api.Round, in(0, 0), quo(ofInt(more(past(), add-2)), rat(7, 1))},
		} {
			if upTo(x.far) {
				wantAround(t, seen, x.p, x.z, x.far)
			}
		}
	}
	seen.least(t, 5, "fits", "too big", "c alone")
}

// P25.6: what is not above 1 may not be, and stands ahead of ErrOut.
func TestAroundOfNoFar(t *testing.T) {
	for _, p := range pictures() {
		for _, far := range []*big.Rat{one(), none(), rat(-1, 1), rat(-5, 4), rat(1, 2), rat(255, 256), ratio(more(top(), -1), top()), opposite(ofInt(top())), under(top())} {
			for _, z := range append(points(p)[:9], outs(p)...) {
				c, e := plane.Around(p, z.gauss(), fraction(far))
				wantNone(t, "Around by "+brief(far), c, e, api.ErrArg)
			}
		}
		for _, far := range wrongFracs() {
			for _, z := range append(points(p)[:9], outs(p)...) {
				c, e := plane.Around(p, z.gauss(), far)
				wantNone(t, "Around by what may not be", c, e, api.ErrArg)
			}
		}
		for _, far := range fars() {
			for _, z := range outs(p) {
				c, e := plane.Around(p, z.gauss(), fraction(far))
				wantNone(t, "Around "+brief(z), c, e, api.ErrOut)
			}
		}
	}
}
