package fcirc_test

import (
	"math"
	"math/big"
	"math/rand"
	"testing"

	"tracery/api"
	"tracery/fcirc"
)

// nearest goes by math/big; the bool tells whether there is one.
func nearest(x *big.Rat) (float64, bool) {
	f, _ := x.Float64()
	if f == 0 { // of what comes to 0 from below math/big tells -0
		f = 0
	}
	return f, isFinite(f)
}

func nearestCircle(k ring) (api.FCircle, bool) {
	var l [4]float64
	all := true
	for j, x := range []*big.Rat{k.a, k.re, k.im, k.c} {
		f, ok := nearest(x)
		l[j], all = f, all && ok
	}
	return fromParts(l), all
}

func wantOf(t *testing.T, k ring) {
	t.Helper()
	if !k.mayBe() {
		t.Fatalf("%v may not be", k)
	}
	f, e := fcirc.Of(k.circle())
	want, ok := nearestCircle(k)
	if !ok {
		wantNone(t, "Of", f, e, api.ErrFloat)
		return
	}
	if e != api.OK {
		t.Fatalf("Of: %v, not %v", e, want)
	}
	wantCircle(t, "Of", f, want)
}

func wantNone(t *testing.T, what string, f api.FCircle, got, want api.Errno) {
	t.Helper()
	if got != want || !likeCircles(f, api.FCircle{}) {
		t.Fatalf("%s: %v, %v, not %v and nothing", what, f, got, want)
	}
}

func TestOfExamples(t *testing.T) { // P12.1
	f, e := fcirc.Of(ringed(1, 0, 0, -1).circle())
	if e != api.OK {
		t.Fatal(e)
	}
	wantCircle(t, "the unit circle", f, unit())
	f, e = fcirc.Of(ring{ratio(1, 1), ratio(1, 3), ratio(-1, 10), ratio(-2, 3)}.circle())
	if e != api.OK || bits(real(f.B)) != 0x3fd5555555555555 || bits(imag(f.B)) != 0xbfb999999999999a || bits(f.C) != 0xbfe5555555555555 || f.A != 1 {
		t.Errorf("of thirds: %v, %v", f, e)
	}
	for _, k := range []ring{
		ringed(1, 0, 0, -1), ringed(0, 0, 1, 0), ringed(0, 1, 0, -2), ringed(0, 1, 7, 1<<54+1), ringed(1, 1<<54+1, -1<<54-1, 3), ringed(1, -3, -4, 24),
		{none(), ratio(1, 1), ratio(22, 7), ratio(-1, 3)}, {ratio(1, 1), ratio(1, 3), none(), ratio(1, 10)},
	} {
		wantOf(t, k)
	}
}

// oddRat: fractions of up to some 2900 bits above and below the line, so that now
// and then there is no nearest float, and now and then a nought or a subnormal one.
func oddRat(r *rand.Rand) *big.Rat {
	num := new(big.Int).Rand(r, new(big.Int).Lsh(big.NewInt(1), uint(1+r.Intn(60)*r.Intn(50))))
	den := new(big.Int).Rand(r, new(big.Int).Lsh(big.NewInt(1), uint(1+r.Intn(60)*r.Intn(50))))
	if r.Intn(2) == 0 {
		num.Neg(num)
	}
	return new(big.Rat).SetFrac(num, den.Add(den, big.NewInt(1)))
}

func TestOfMany(t *testing.T) { // P12.1
	r := rand.New(rand.NewSource(1210))
	told := [2]int{}
	for range 4000 {
		k := ring{ratio(1, 1), oddRat(r), oddRat(r), oddRat(r)}
		switch r.Intn(4) {
		case 0:
			k.a, k.re = none(), ratio(1, 1)
		case 1:
			k.a, k.re, k.im = none(), none(), ratio(1, 1)
		}
		if !k.mayBe() {
			continue
		}
		wantOf(t, k)
		if _, ok := nearestCircle(k); ok {
			told[0]++
		} else {
			told[1]++
		}
	}
	if told[0] < 1000 || told[1] < 200 {
		t.Errorf("asked only %v", told)
	}
}

// What is too great, or comes to 0, stands at each of the places where it may.
func TestOfEnds(t *testing.T) { // P12.1
	limit := new(big.Rat).Sub(twos(1024), twos(970))
	under := new(big.Rat).Sub(limit, ratio(1, 3))
	one := ratio(1, 1)
	for _, x := range []*big.Rat{
		limit, under, twos(1024), twos(4000), exactly(math.MaxFloat64), twos(-1074), twos(-1075), new(big.Rat).Mul(twos(-1076), ratio(3, 1)), twos(-4000), twos(-1022),
	} {
		y := new(big.Rat).Neg(x)
		for _, k := range []ring{
			{one, x, none(), ratio(-1, 1)}, {one, none(), x, ratio(-1, 1)}, {one, y, none(), ratio(-1, 1)}, {one, none(), y, ratio(-1, 1)}, {one, none(), none(), y}, {one, y, x, y},
			{none(), one, x, none()}, {none(), one, y, none()}, {none(), one, none(), x}, {none(), none(), one, y}, {none(), one, x, y},
		} {
			wantOf(t, k)
		}
	}
}

func TestOfRefuses(t *testing.T) { // P12.1: ErrArg, ahead of ErrFloat
	for _, c := range wrongCircles() {
		f, e := fcirc.Of(c)
		wantNone(t, "a circle that may not be", f, e, api.ErrArg)
	}
	great := fraction(twos(2000))
	for _, c := range []api.Circle{
		{A: great, B: ringed(0, 0, 1, 0).circle().B, C: ringed(0, 0, 0, -1).circle().C},
		{A: ringed(1, 0, 0, 0).circle().A, B: ringed(0, 0, 0, 0).circle().B, C: great},
		{A: ringed(1, 0, 0, 0).circle().A, B: api.Gauss{Re: great}, C: great},
		{A: ringed(0, 0, 0, 0).circle().A, B: api.Gauss{Re: great, Im: great}, C: great},
		{B: api.Gauss{Re: great, Im: great}, C: great},
	} {
		f, e := fcirc.Of(c)
		wantNone(t, "too great, and may not be", f, e, api.ErrArg)
	}
}
