package plane_test

import (
	"math/big"
	"math/rand"
	"testing"

	"tracery/api"
	"tracery/circ"
	"tracery/plane"
)

func wantLine(t *testing.T, seen tally, p api.Picture, z, w num) {
	t.Helper()
	what := "Line of " + brief(z) + " and " + brief(w)
	got, e := plane.Line(p, z.gauss(), w.gauss())
	if z.same(w) {
		seen["same"]++
		wantNone(t, what, got, e, api.ErrSame)
		return
	}
	k := lineOf(p, z, w)
	wantFit(t, seen, what, got, e, k.circle(), k.fits())
	seen.ring(k)
	seen.when("flat", k.flat())
	seen.when("round", !k.flat())
	if e == api.OK && circ.Check(got) != api.OK {
		t.Fatalf("%s is %s, which may not be", what, brief(got))
	}
}

func TestLine(t *testing.T) { // P25.4
	for _, p := range pictures() {
		seen := tally{}
		pairs(p, func(z, w num) {
			wantLine(t, seen, p, z, w)
			if !lengthy(z, w) {
				wantLine(t, seen, p, w, z)
			}
		})
		seen.least(t, 20, "fits", "too big", "same", "flat", "round")
		if p == api.Upper {
			seen.least(t, 5, "c alone")
		}
	}
}

// P25.4: what may differ as to where both points are.
func TestLineByHand(t *testing.T) {
	x := parts(3, 5, 4, 5).scaled(rat(1, 2))
	for _, row := range []struct {
		p    api.Picture
		z, w num
		want ring
	}{
		{api.Upper, in(3, 1), in(3, 5), beside(rat(3, 1))}, {api.Upper, parts(-1, 3, 1, 9), parts(-1, 3, 1, 2), beside(rat(-1, 3))},
		{api.Upper, in(-1, 2), in(1, 2), about(in(0, 0), rat(5, 1))}, {api.Upper, in(3, 4), in(0, 5), about(in(0, 0), rat(25, 1))}, {api.Upper, in(4, 7), in(6, 7), about(in(5, 0), rat(50, 1))},
		{api.Round, in(0, 0), parts(1, 2, 0, 1), ringed(0, 0, 1, 0)}, {api.Round, parts(-1, 2, 0, 1), parts(1, 3, 0, 1), ringed(0, 0, 1, 0)}, {api.Round, parts(1, 3, 0, 1), parts(1, 2, 0, 1), ringed(0, 0, 1, 0)},
		{api.Round, parts(1, 3, 1, 3), in(0, 0), ringed(0, 1, 1, 0)}, {api.Round, parts(1, 3, -1, 3), parts(-1, 2, 1, 2), ringed(0, 1, -1, 0)}, {api.Round, parts(0, 1, 1, 2), parts(0, 1, -1, 3), ringed(0, 1, 0, 0)},
		{api.Round, x, x.neg(), ring{none(), num{one(), rat(3, 4)}, none()}}, {api.Round, parts(1, 2, 1, 5), parts(1, 2, -1, 5), about(real(rat(129, 100)), minus(squared(rat(129, 100)), one()))},
	} {
		for range 2 {
			got, e := plane.Line(row.p, row.z.gauss(), row.w.gauss())
			want(t, "Line", got, e, row.want.circle())
			row.z, row.w = row.w, row.z
		}
	}
}

func TestLineAtTheBound(t *testing.T) { // P25.4
	seen := tally{}
	for _, add := range []int64{-2, -1, 0, 1, 2} {
		// Upright, C is twice as great as the real part.
		n := ofInt(more(twos(8*api.MaxWhole-1), add))
		wantLine(t, seen, api.Upper, num{n, one()}, num{n, rat(2, 1)})
		wantLine(t, seen, api.Upper, num{opposite(n), one()}, num{opposite(n), rat(1, 2)})
		// About 0, C is how far off it is, squared.
		m := ofInt(more(half(), add))
		wantLine(t, seen, api.Upper, num{m, one()}, num{opposite(m), one()})
		wantLine(t, seen, api.Upper, num{one(), m}, num{rat(-1, 1), m})
		wantLine(t, seen, api.Upper, num{m, one()}, num{m, rat(2, 1)})
		// The centre is far off.
		wantLine(t, seen, api.Upper, num{none(), one()}, num{new(big.Rat).Inv(m), m})
		wantLine(t, seen, api.Upper, num{none(), one()}, num{new(big.Rat).Inv(m), rat(2, 1)})
		// Through 0 b's other part alone can be long.
		tiny := new(big.Rat).Inv(m)
		wantLine(t, seen, api.Round, in(0, 0), num{rat(2, 3), new(big.Rat).Inv(n)})
		wantLine(t, seen, api.Round, in(0, 0), num{new(big.Rat).Inv(n), rat(2, 3)})
		wantLine(t, seen, api.Round, num{tiny, none()}, num{tiny, rat(1, 2)})
		wantLine(t, seen, api.Round, num{tiny, new(big.Rat).Inv(ofInt(half()))}, num{opposite(tiny), rat(1, 2)})
	}
	seen.least(t, 5, "fits", "too big", "b alone", "c alone")
}

func TestIsLine(t *testing.T) { // P25.4
	for _, p := range pictures() {
		seen := tally{}
		for _, k := range append(straights(p), longStraights(p)...) {
			is, e := plane.IsLine(p, k.circle())
			want(t, "IsLine of "+brief(k), is, e, true)
		}
		for _, q := range pictures() {
			for _, k := range append(append(crooked(q), straights(q)...), longStraights(q)...) {
				is, e := plane.IsLine(p, k.circle())
				want(t, "IsLine of "+brief(k), is, e, k.right(edgeOf(p)))
				seen.when("is", is)
				seen.when("is none", !is)
			}
		}
		seen.least(t, 40, "is", "is none")
		is, e := plane.IsLine(p, edgeOf(p).circle())
		want(t, "IsLine of the edge", is, e, false)
		is, e = plane.IsLine(p, edgeOf(api.Upper+api.Round-p).circle())
		want(t, "IsLine of the other edge", is, e, true)
	}
}

// besides goes over straight lines and points, on them and off them.
func besides(p api.Picture, do func(k ring, z num)) {
	r := rand.New(rand.NewSource(2600 + int64(p)))
	near := grains(p)
	for n, k := range straights(p) {
		for m, z := range near {
			if (n+m)%4 == 0 || k.value(z).Sign() == 0 {
				do(k, z)
			}
		}
		do(k, oddPoint(r, p, 1+n/9))
	}
	far := longs(p)
	for n, k := range longStraights(p) {
		do(k, near[n])
		do(k, near[len(near)-1-n])
		do(k, far[n])
		if n%3 == 0 {
			do(k, far[0])
		}
	}
	for n, z := range far {
		do(straights(p)[n], z)
		do(straights(p)[20+n], z)
	}
	// Lines through two points, and points that are on them.
	for n := range 30 {
		z, w := oddPoint(r, p, 1+n/3), oddPoint(r, p, 1+n/5)
		if k := lineOf(p, z, w); k.fits() {
			do(k, z)
			do(k, w)
			do(k, oddPoint(r, p, 2))
		}
		z, w = longPoint(r, p, 1+n*3), longPoint(r, p, 1+n*2)
		if k := lineOf(p, z, w); k.fits() {
			do(k, z)
			do(k, near[n%len(near)])
		}
	}
	// Numbers so long that the answers are about as long as may be.
	for n := range 24 {
		do(straights(p)[n], longPoint(r, p, 60+n*12))
	}
}

func TestUpright(t *testing.T) { // P25.5
	for _, p := range pictures() {
		seen := tally{}
		besides(p, func(k ring, z num) {
			wanted := uprightOf(p, k, z)
			what := "Upright on " + brief(k) + " from " + brief(z)
			got, e := plane.Upright(p, k.circle(), z.gauss())
			wantFit(t, seen, what, got, e, wanted.circle(), wanted.fits())
			seen.ring(wanted)
			on := k.value(z).Sign() == 0
			seen.when("on it", on)
			seen.when("off it", !on)
			seen.when("flat", wanted.flat())
			seen.when("round", !wanted.flat())
			seen.when("flat on flat", wanted.flat() && k.flat())
			if e == api.OK && (circ.Check(got) != api.OK || !wanted.right(k) || !wanted.right(edgeOf(p)) || wanted.value(z).Sign() != 0) {
				t.Fatalf("%s is %s", what, brief(got))
			}
		})
		seen.least(t, 20, "fits", "too big", "on it", "off it", "flat", "round")
		if p == api.Upper {
			seen.least(t, 5, "c alone")
		} else {
			seen.least(t, 2, "flat on flat")
		}
	}
}

func TestUprightAtTheBound(t *testing.T) { // P25.5
	axis, seen := beside(none()), tally{}
	for _, add := range []int64{-2, -1, 0, 1, 2} {
		m := ofInt(more(half(), add))
		tiny := new(big.Rat).Inv(m)
		for _, x := range []struct {
			p api.Picture
			k ring
			z num
		}{
			{api.Upper, axis, num{none(), m}}, {api.Upper, axis, num{m, one()}}, {api.Upper, axis, num{one(), tiny}},
			{api.Upper, about(in(0, 0), one()), num{ofInt(more(twos(8*api.MaxWhole-1), add)), one()}}, {api.Upper, about(in(0, 0), one()), num{tiny, one()}}, {api.Upper, about(in(0, 0), one()), num{one(), m}},
			{api.Round, axis, num{none(), tiny}}, {api.Round, axis, num{tiny, tiny}}, {api.Round, axis, num{tiny, rat(1, 2)}}, {api.Round, ringed(1, 2, 0, 1), num{none(), tiny}},
		} {
			wanted := uprightOf(x.p, x.k, x.z)
			got, e := plane.Upright(x.p, x.k.circle(), x.z.gauss())
			wantFit(t, seen, "Upright on "+brief(x.k)+" from "+brief(x.z), got, e, wanted.circle(), wanted.fits())
			seen.ring(wanted)
		}
	}
	seen.least(t, 5, "fits", "too big")
	seen.least(t, 2, "b alone", "c alone")
}

func wantFoot(t *testing.T, seen tally, p api.Picture, k ring, z num) {
	t.Helper()
	what := "Foot on " + brief(k) + " from " + brief(z)
	wanted, exact := footOf(p, k, z)
	got, e := plane.Foot(p, k.circle(), z.gauss())
	up := uprightOf(p, k, z)
	if !exact {
		seen["none"]++
		seen.when("none, though the line is too big", !up.fits())
		wantNone(t, what, got, e, api.ErrNone)
		return
	}
	wantFit(t, seen, what, got, e, wanted.gauss(), wanted.fits())
	if !wanted.fits() {
		seen.when("re alone", upTo(wanted.im))
		seen.when("im alone", upTo(wanted.re))
		return
	}
	if !within(p, wanted) || k.value(wanted).Sign() != 0 || up.value(wanted).Sign() != 0 {
		t.Fatalf("%s is %s", what, brief(wanted))
	}
	if k.value(z).Sign() == 0 {
		seen["on it"]++
		want(t, what, got, e, z.gauss())
	} else {
		seen["off it"]++
	}
	seen.when("told, though the line is too big", !up.fits())
}

func TestFoot(t *testing.T) { // P25.5
	for _, p := range pictures() {
		seen := tally{}
		besides(p, func(k ring, z num) { wantFoot(t, seen, p, k, z) })
		// Feet that are exact: a point of the line, and one upright above it.
		r := rand.New(rand.NewSource(2610 + int64(p)))
		for n := range 250 {
			k, z := footed(r, p, 1+n/40)
			if k.fits() && z.fits() && within(p, z) {
				wantFoot(t, seen, p, k, z)
			}
		}
		seen.least(t, 60, "fits", "none", "on it", "off it")
		seen.least(t, 5, "none, though the line is too big")
	}
}

// footed makes a straight line, and a point whose foot on it is exact: by the
// line Re z = 0, and a + b i with a a + b b the square of a fraction, carried
// elsewhere by a map that keeps the picture.
func footed(r *rand.Rand, p api.Picture, most int) (ring, num) {
	m, n := ofInt(some(r, most)), ofInt(some(r, most))
	z := num{minus(squared(m), squared(n)), twice(times(m, n))}.scaled(ratio(some(r, most), some(r, most)))
	k, by := beside(none()), rat(1, 1)
	if r.Intn(3) > 0 { // over a circle about a real number
		by = ratio(some(r, most), some(r, most))
		at := real(odd(r, most))
		turning := about(at, by)
		if turning.value(in(0, 0)).Sign() != 0 {
			w := num{none(), one()}
			k = lineOf(api.Upper, turning.turned(w), turning.turned(w.scaled(rat(2, 1))))
			z = turning.turned(z)
		}
	}
	if p == api.Round {
		u := num{none(), one()}
		two := []num{}
		for _, scale := range []int64{1, 2} {
			w := u.scaled(rat(scale, 1))
			if !k.flat() { // its top, and the point beside it by 3/5 and 4/5
				root, exact := rooted(k.square())
				if !exact {
					return ring{one(), in(0, 0), ofInt(past())}, z
				}
				w = k.centre().plus([]num{in(0, 1), parts(3, 5, 4, 5)}[scale-1].scaled(root))
			}
			two = append(two, toRound().at(w))
		}
		return lineOf(api.Round, two[0], two[1]), toRound().at(z)
	}
	return k, z
}

func TestFootAtTheBound(t *testing.T) { // P25.5
	axis, seen := beside(none()), tally{}
	for _, add := range []int64{-3, -2, -1, 0, 1, 2} {
		// By Pythagoras: 2 m, m m - 1, m m + 1.
		m := ofInt(more(half(), add))
		z := num{twice(m), minus(squared(m), one())}
		if z.fits() {
			wantFoot(t, seen, api.Upper, axis, z)
		}
		n := ofInt(more(half(), -9))
		z = num{ofInt(half()), n}.times(num{ofInt(half()), n})
		if z.fits() {
			wantFoot(t, seen, api.Upper, axis, z)
		}
		// 3/5 + 4/5 i, and so long that just the root is one byte longer.
		by := ofInt(more(new(big.Int).Quo(past(), big.NewInt(4)), add))
		for _, z := range []num{in(3, 4).scaled(quo(by, rat(5, 1))), in(3, 4).scaled(by), in(-4, 3).scaled(quo(by, rat(2, 1))), in(5, 12).scaled(quo(by, rat(13, 4)))} {
			if z.fits() {
				wantFoot(t, seen, api.Upper, axis, z)
			}
		}
	}
	// The line is too big, the foot is not; and neither is exact.
	seen.least(t, 3, "fits", "too big")
	for _, z := range []num{in(3, 4).scaled(ofInt(half())), in(3, 4).scaled(under(half())), in(0, 1).scaled(ofInt(half()))} {
		wantFoot(t, seen, api.Upper, axis, z)
	}
	seen.least(t, 3, "told, though the line is too big")
	for _, z := range []num{in(1, 1).scaled(ofInt(top())), in(2, 3).scaled(under(top())), {ofInt(half()), one()}} {
		wantFoot(t, seen, api.Upper, axis, z)
	}
	seen.least(t, 3, "none", "none, though the line is too big")
}

func TestFootByHand(t *testing.T) { // P25.5
	for _, x := range []struct {
		p    api.Picture
		k    ring
		z    num
		want num
	}{
		{api.Upper, beside(none()), in(3, 4), in(0, 5)}, {api.Upper, beside(none()), in(-3, 4), in(0, 5)}, {api.Upper, beside(rat(1, 1)), in(1, 7), in(1, 7)}, {api.Upper, beside(rat(-2, 1)), in(3, 12), in(-2, 13)},
		{api.Upper, about(in(0, 0), one()), in(0, 5), in(0, 1)}, {api.Upper, about(in(0, 0), one()), parts(0, 1, 1, 9), in(0, 1)}, {api.Upper, about(in(0, 0), one()), parts(3, 5, 4, 5), parts(3, 5, 4, 5)},
		{api.Upper, about(in(2, 0), rat(9, 1)), in(2, 1), in(2, 3)},
		{api.Round, beside(none()), parts(1, 2, 0, 1), in(0, 0)}, {api.Round, beside(none()), in(0, 0), in(0, 0)}, {api.Round, ringed(0, 0, 1, 0), parts(0, 1, -2, 3), in(0, 0)}, {api.Round, beside(none()), parts(0, 1, 3, 7), parts(0, 1, 3, 7)},
		{api.Round, ring{one(), parts(-5, 4, 0, 1), one()}, in(0, 0), parts(1, 2, 0, 1)}, {api.Round, ring{one(), parts(-5, 4, 0, 1), one()}, parts(-1, 3, 0, 1), parts(1, 2, 0, 1)}, {api.Round, ring{one(), parts(-5, 4, 0, 1), one()}, parts(9, 10, 0, 1), parts(1, 2, 0, 1)},
		{api.Round, ring{one(), parts(0, 1, 5, 4), one()}, in(0, 0), parts(0, 1, 1, 2)},
	} {
		got, e := plane.Foot(x.p, x.k.circle(), x.z.gauss())
		want(t, "Foot on "+brief(x.k)+" from "+brief(x.z), got, e, x.want.gauss())
	}
	for _, x := range []struct {
		p api.Picture
		k ring
		z num
	}{
		{api.Upper, beside(none()), in(1, 2)}, {api.Upper, about(in(0, 0), rat(2, 1)), in(0, 1)}, {api.Upper, beside(rat(1, 2)), parts(3, 2, 1, 1)}, {api.Upper, about(in(0, 0), one()), in(1, 1)},
		{api.Round, ringed(1, 2, 0, 1), in(0, 0)}, {api.Round, ringed(0, 1, 1, 0), parts(1, 3, 0, 1)}, {api.Round, beside(none()), parts(1, 2, 1, 2)},
	} {
		got, e := plane.Foot(x.p, x.k.circle(), x.z.gauss())
		wantNone(t, "Foot on "+brief(x.k)+" from "+brief(x.z), got, e, api.ErrNone)
	}
}

func wantOver(t *testing.T, seen tally, p api.Picture, k ring, z num) {
	t.Helper()
	wanted := k.turned(z)
	got, e := plane.Over(p, k.circle(), z.gauss())
	wantFit(t, seen, brief(z)+" over "+brief(k), got, e, wanted.gauss(), wanted.fits())
	if !within(p, wanted) {
		t.Fatalf("%s over %s is no point", brief(z), brief(k))
	}
	if k.value(z).Sign() == 0 {
		seen["on it"]++
		want(t, brief(z)+" over "+brief(k), got, e, z.gauss())
	} else {
		seen["off it"]++
	}
	seen.when("re alone", !upTo(wanted.re) && upTo(wanted.im))
	seen.when("im alone", upTo(wanted.re) && !upTo(wanted.im))
}

func TestOver(t *testing.T) { // P25.5
	for _, p := range pictures() {
		seen := tally{}
		besides(p, func(k ring, z num) { wantOver(t, seen, p, k, z) })
		seen.least(t, 20, "fits", "too big", "on it", "off it")
	}
}

func TestOverAtTheBound(t *testing.T) { // P25.5
	seen := tally{}
	for _, add := range []int64{-2, -1, 0, 1, 2} {
		m := ofInt(more(half(), add))
		tiny := new(big.Rat).Inv(m)
		wantOver(t, seen, api.Upper, ring{none(), in(1, 0), ofInt(top())}, in(add, 1))
		wantOver(t, seen, api.Upper, ring{none(), in(1, 0), opposite(ofInt(top()))}, in(-add, 1))
		wantOver(t, seen, api.Upper, about(in(0, 0), m), num{none(), new(big.Rat).Inv(ofInt(half()))})
		wantOver(t, seen, api.Upper, about(in(0, 0), tiny), num{none(), ofInt(half())})
		wantOver(t, seen, api.Upper, about(in(0, 0), one()), num{one(), m})
		wantOver(t, seen, api.Upper, about(in(0, 0), one()), num{m, one()})
		wantOver(t, seen, api.Round, ring{one(), real(m), one()}, in(0, 0))
		wantOver(t, seen, api.Round, ring{one(), num{m, one()}, one()}, in(0, 0))
		wantOver(t, seen, api.Round, ring{one(), num{one(), m}, one()}, parts(1, 2, 0, 1))
		wantOver(t, seen, api.Round, ring{none(), num{one(), m}, none()}, parts(1, 2, 0, 1))
	}
	seen.least(t, 5, "fits", "too big", "re alone")
	seen.least(t, 2, "im alone")
}
