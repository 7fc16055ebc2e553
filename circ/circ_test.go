package circ_test

import (
	"math/big"
	"math/rand"
	"testing"

	"tracery/api"
	"tracery/circ"
)

func TestCheck(t *testing.T) { // P11.1
	for _, k := range rings() {
		if e := circ.Check(k.circle()); e != api.OK {
			t.Fatalf("%s: %v", brief(k.circle()), e)
		}
	}
	for _, c := range wrongCircles() {
		if e := circ.Check(c); e != api.ErrArg {
			t.Fatalf("the wrong %s: %v", brief(c), e)
		}
	}
	// All small numbers, by the words of DOC.md.
	for n := range 7 * 7 * 7 * 7 {
		part := func(by int) int64 { return int64(n/by%7 - 3) }
		k, wanted := ringed(part(1), part(7), part(49), part(343)), api.ErrArg
		a, re, im := part(1), part(7), part(49)
		if form := a == 1 || a == 0 && (re == 1 || re == 0 && im == 1); form && re*re+im*im-a*part(343) > 0 {
			wanted = api.OK
		}
		if e := circ.Check(k.circle()); e != wanted {
			t.Fatalf("%s: %v, want %v", brief(k.circle()), e, wanted)
		}
	}
}

// wantMade wants what Make must make of three numbers that may be.
func wantMade(t *testing.T, k ring) {
	t.Helper()
	c := k.circle()
	got, e := circ.Make(c.A, c.B, c.C)
	if k.empty() {
		wantNone(t, "made of "+brief(c), got, e, api.ErrEmpty)
		return
	}
	want(t, "made of "+brief(c), got, e, k.formed())
}

func TestMake(t *testing.T) { // P11.1
	for n := range 5 * 5 * 5 * 5 {
		part := func(by int) int64 { return int64(n/by%5 - 2) }
		wantMade(t, ringed(part(1), part(5), part(25), part(125)))
	}
	for _, k := range notInForm() {
		wantMade(t, k)
	}
	for _, k := range rings() {
		wantMade(t, k)
		for _, by := range []*big.Rat{rat(-1, 1), rat(2, 3), rat(-7, 5)} {
			if scaled := k.times(by); scaled.fits() {
				wantMade(t, scaled)
			}
		}
	}
	r := rand.New(rand.NewSource(1110))
	for range 300 {
		wantMade(t, ring{odd(r, 6), oddNum(r, 6), odd(r, 6)})
	}
}

func TestMakeExamples(t *testing.T) { // P11.1
	for _, x := range []struct {
		from, to ring
	}{
		{ringed(2, 0, 0, -2), unit()}, {ringed(-2, 0, 0, 2), unit()}, {ringed(0, 0, -3, 0), reals()}, {ringed(0, -2, 4, 6), ringed(0, 1, -2, -3)}, {ringed(-1, 2, 0, 0), ringed(1, -2, 0, 0)},
	} {
		c := x.from.circle()
		got, e := circ.Make(c.A, c.B, c.C)
		want(t, "made of "+brief(c), got, e, x.to)
	}
	for _, k := range []ring{ringed(1, 0, 0, 1), ringed(0, 0, 0, 5), ringed(1, 1, 0, 1), ringed(0, 0, 0, 0), ringed(-1, 0, 0, -1), ringed(-2, 0, 0, -5)} {
		c := k.circle()
		got, e := circ.Make(c.A, c.B, c.C)
		wantNone(t, "made of "+brief(c), got, e, api.ErrEmpty)
	}
}

func TestMakeAtTheBound(t *testing.T) { // P11.1
	half, most := rat(1, 2), ofInt(top())
	for _, x := range []struct {
		k    ring
		want api.Errno
	}{
		{ring{half, in(1, 0), opposite(ofInt(edge()))}, api.ErrBig}, {ring{half, in(1, 0), opposite(ofInt(less(edge(), 1)))}, api.OK},
		{ring{half, real(ofInt(edge())), rat(1, 1)}, api.ErrBig}, {ring{half, num{none(), ofInt(edge())}, rat(1, 1)}, api.ErrBig}, {ring{half, num{none(), ofInt(less(edge(), 1))}, rat(1, 1)}, api.OK},
		{ring{rat(2, 1), in(1, 0), opposite(under(top()))}, api.ErrBig}, {ring{rat(2, 1), in(0, 2), opposite(under(less(edge(), 1)))}, api.OK},
		{ring{none(), num{half, ofInt(edge())}, none()}, api.ErrBig}, {ring{none(), num{half, ofInt(less(edge(), 1))}, none()}, api.OK},
		{ring{none(), num{none(), half}, ofInt(edge())}, api.ErrBig}, {ring{none(), num{none(), half}, opposite(ofInt(edge()))}, api.ErrBig}, {ring{none(), num{none(), half}, ofInt(less(edge(), 1))}, api.OK},
		{ring{most, in(0, 0), opposite(most)}, api.OK}, {ring{most, num{most, most}, most}, api.OK}, {ring{under(top()), num{under(top()), none()}, opposite(under(top()))}, api.OK},
		{ring{under(top()), in(1, 0), none()}, api.OK}, {ring{under(top()), in(2, 0), none()}, api.ErrBig}, {ring{most, num{none(), under(top())}, none()}, api.ErrBig},
		// ErrEmpty stands ahead of ErrBig.
		{ring{half, in(1, 0), ofInt(edge())}, api.ErrEmpty}, {ring{rat(2, 1), in(0, 0), under(top())}, api.ErrEmpty}, {ring{under(top()), in(0, 0), most}, api.ErrEmpty}, {ring{most, real(most), most}, api.ErrEmpty},
		// The power's sign is told by numbers that are longer than may be.
		{ring{most, num{most, under(top())}, most}, api.ErrBig},
	} {
		wantMade(t, x.k)
		c := x.k.circle()
		if _, e := circ.Make(c.A, c.B, c.C); e != x.want {
			t.Errorf("made of %s: %v, want %v", brief(c), e, x.want)
		}
	}
}

func TestMakeRefusesWrongNumbers(t *testing.T) { // P11.1
	for _, k := range []ring{unit(), reals(), ringed(1, 0, 0, 1), ringed(0, 0, 0, 0)} {
		c := k.circle()
		for _, x := range wrongFracs() {
			got, e := circ.Make(x, c.B, c.C)
			wantNone(t, "made of a wrong A", got, e, api.ErrArg)
			got, e = circ.Make(c.A, c.B, x)
			wantNone(t, "made of a wrong C", got, e, api.ErrArg)
			got, e = circ.Make(x, api.Gauss{}, x)
			wantNone(t, "made of wrong numbers", got, e, api.ErrArg)
		}
		for _, z := range wrongNums() {
			got, e := circ.Make(c.A, z, c.C)
			wantNone(t, "made of a wrong B", got, e, api.ErrArg)
		}
	}
}

// about is the circle |z - centre|^2 = square.
func about(centre num, square *big.Rat) ring {
	return ring{rat(1, 1), centre.conj().neg(), minus(centre.norm(), square)}
}

func wantRound(t *testing.T, centre num, square *big.Rat) {
	t.Helper()
	got, e := circ.Round(centre.gauss(), fraction(square))
	what := "the circle about " + briefNum(centre.gauss())
	if square.Sign() <= 0 {
		wantNone(t, what, got, e, api.ErrEmpty)
		return
	}
	want(t, what, got, e, about(centre, square))
}

func TestRound(t *testing.T) { // P11.1
	for re := int64(-2); re <= 2; re++ {
		for im := int64(-2); im <= 2; im++ {
			for square := int64(-2); square <= 5; square++ {
				wantRound(t, in(re, im), rat(square, 1))
				wantRound(t, in(re, im), rat(square, 3))
			}
		}
	}
	r := rand.New(rand.NewSource(1111))
	for range 200 {
		wantRound(t, oddNum(r, 9), odd(r, 9))
	}
	seen := sides{}
	for k := range 60 {
		centre, square := fullNum(r, 196+k/5), full(r, 196+k/5)
		seen.count(about(centre, square).fits())
		wantRound(t, centre, square)
	}
	seen.both(t)
	got, e := circ.Round(in(0, 0).gauss(), over(1, 1))
	want(t, "the circle about 0", got, e, unit())
	got, e = circ.Round(num{rat(1, 2), none()}.gauss(), over(1, 4))
	want(t, "the circle about 1/2", got, e, ring{rat(1, 1), num{rat(-1, 2), none()}, none()})
	got, e = circ.Round(in(3, 4).gauss(), over(4, 1))
	want(t, "the circle about 3 + 4 i", got, e, ringed(1, -3, 4, 21))
}

func TestRoundAtTheBound(t *testing.T) { // P11.1
	long := real(ofInt(root())) // its norm is just past the bound
	for _, x := range []struct {
		centre num
		square *big.Rat
		want   api.Errno
	}{
		{long, rat(1, 1), api.OK}, {long, rat(1, 2), api.ErrBig}, {long, rat(2, 1), api.OK}, {long, rat(0, 1), api.ErrEmpty}, {long, rat(-1, 1), api.ErrEmpty},
		{num{none(), long.re}, rat(1, 1), api.OK}, {num{none(), opposite(long.re)}, rat(1, 2), api.ErrBig},
		{in(0, 0), ofInt(top()), api.OK}, {in(0, 0), under(top()), api.OK}, {in(1, 0), opposite(ofInt(top())), api.ErrEmpty}, {in(1, 0), ofInt(top()), api.OK}, {in(0, 1), under(top()), api.OK}, {in(1, 1), under(top()), api.ErrBig},
		{real(ofInt(top())), ofInt(top()), api.ErrBig}, {real(ofInt(top())), opposite(ofInt(top())), api.ErrEmpty},
	} {
		wantRound(t, x.centre, x.square)
		if _, e := circ.Round(x.centre.gauss(), fraction(x.square)); e != x.want {
			t.Errorf("the circle about %s: %v, want %v", briefNum(x.centre.gauss()), e, x.want)
		}
	}
}

func TestRoundRefusesWrongNumbers(t *testing.T) { // P11.1
	for _, square := range []api.Frac{over(1, 1), over(0, 1), over(-1, 1), {}, fraction(ofInt(top()))} {
		for _, z := range wrongNums() {
			got, e := circ.Round(z, square)
			wantNone(t, "the circle about a wrong number", got, e, api.ErrArg)
		}
	}
	for _, x := range wrongFracs() {
		for _, z := range []num{in(0, 0), in(1, 2), real(ofInt(top()))} {
			got, e := circ.Round(z.gauss(), x)
			wantNone(t, "a circle of a wrong square", got, e, api.ErrArg)
		}
	}
}

// upright is the line Re(conj(normal) (z - at)) = 0, of a normal that is not 0.
func upright(normal, at num) ring {
	dot := normal.conj().times(at).re
	return ring{none(), normal.conj(), opposite(plus(dot, dot))}.formed()
}

func wantLine(t *testing.T, normal, at num) {
	t.Helper()
	got, e := circ.Line(normal.gauss(), at.gauss())
	what := "the line through " + briefNum(at.gauss()) + " upright to " + briefNum(normal.gauss())
	if normal.zero() {
		wantNone(t, what, got, e, api.ErrEmpty)
		return
	}
	want(t, what, got, e, upright(normal, at))
}

func TestLine(t *testing.T) { // P11.1
	for n := range 5 * 5 * 5 * 5 {
		part := func(by int) int64 { return int64(n/by%5 - 2) }
		wantLine(t, in(part(1), part(5)), in(part(25), part(125)))
	}
	r := rand.New(rand.NewSource(1112))
	for range 200 {
		wantLine(t, oddNum(r, 9), oddNum(r, 9))
	}
	seen := sides{}
	for k := range 60 {
		normal, at := fullNum(r, 250+k/5), fullNum(r, 250+k/5)
		seen.count(upright(normal, at).fits())
		wantLine(t, normal, at)
	}
	seen.both(t)
	for _, x := range []struct {
		normal, at num
		want       ring
	}{
		{in(1, 0), in(1, 5), ringed(0, 1, 0, -2)}, {in(0, 1), in(7, 0), reals()}, {in(0, -4), in(0, 0), reals()}, {in(0, 1), in(3, 1), ringed(0, 0, 1, 2)}, {in(1, 1), in(1, 0), ringed(0, 1, -1, -2)}, {in(-3, 3), in(0, 2), ringed(0, 1, 1, 4)},
	} {
		got, e := circ.Line(x.normal.gauss(), x.at.gauss())
		want(t, "a line", got, e, x.want)
	}
}

func TestLineAtTheBound(t *testing.T) { // P11.1
	most, bound := ofInt(top()), ofInt(edge())
	for _, x := range []struct {
		normal, at num
		want       api.Errno
	}{
		{in(1, 0), real(ofInt(less(edge(), 1))), api.OK}, {in(1, 0), real(bound), api.ErrBig}, {in(1, 0), num{none(), bound}, api.OK}, {in(0, 1), num{none(), bound}, api.ErrBig}, {in(0, 2), num{bound, none()}, api.OK},
		{num{most, most}, in(1, 0), api.OK}, {num{under(top()), under(top())}, in(1, 0), api.OK}, {num{most, under(top())}, in(1, 0), api.ErrBig}, {num{most, under(top())}, in(0, 0), api.ErrBig},
		{in(0, 0), real(most), api.ErrEmpty}, {in(0, 0), real(bound), api.ErrEmpty},
		{num{most, most}, num{opposite(most), most}, api.OK}, // the normal's product with at is long on the way alone
	} {
		wantLine(t, x.normal, x.at)
		if _, e := circ.Line(x.normal.gauss(), x.at.gauss()); e != x.want {
			t.Errorf("the line through %s: %v, want %v", briefNum(x.at.gauss()), e, x.want)
		}
	}
}

func TestLineRefusesWrongNumbers(t *testing.T) { // P11.1
	for _, z := range wrongNums() {
		for _, w := range []api.Gauss{in(0, 0).gauss(), in(1, 2).gauss(), real(ofInt(top())).gauss(), z, {}} {
			got, e := circ.Line(z, w)
			wantNone(t, "a line of a wrong normal", got, e, api.ErrArg)
			got, e = circ.Line(w, z)
			wantNone(t, "a line through a wrong number", got, e, api.ErrArg)
		}
	}
}
