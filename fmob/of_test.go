package fmob_test

import (
	"math"
	"math/big"
	"math/rand"
	"testing"

	"tracery/api"
	"tracery/fmob"
)

// nearest goes by math/big; the bool tells whether there is one.
func nearest(x *big.Rat) (float64, bool) {
	f, _ := x.Float64()
	if f == 0 { // of what comes to 0 from below math/big tells -0
		f = 0
	}
	return f, isFinite(f)
}

// nearestMap tells whether every one of the eight parts has a nearest float.
func nearestMap(m api.Mob) (api.FMob, bool) {
	var l [8]float64
	ok := true
	for k, z := range []api.Gauss{m.A, m.B, m.C, m.D} {
		for j, x := range []api.Frac{z.Re, z.Im} {
			f, is := nearest(ratOf(x))
			l[2*k+j], ok = f, ok && is
		}
	}
	return fromParts(l, m.Turns), ok
}

func wantOf(t *testing.T, m api.Mob) {
	t.Helper()
	f, e := fmob.Of(m)
	want, ok := nearestMap(m)
	if !ok {
		wantErrno(t, "Of", f, e, api.ErrFloat)
		return
	}
	if e != api.OK {
		t.Fatalf("Of: %v, not %v", e, want)
	}
	wantMap(t, "Of", f, want)
}

// oddRat: fractions of up to some 1300 bits above and below the line, so that now
// and then there is no nearest float, and now and then a nought or a subnormal one.
func oddRat(r *rand.Rand) *big.Rat {
	num := new(big.Int).Rand(r, new(big.Int).Lsh(big.NewInt(1), uint(1+r.Intn(40)*r.Intn(34))))
	den := new(big.Int).Rand(r, new(big.Int).Lsh(big.NewInt(1), uint(1+r.Intn(40)*r.Intn(34))))
	if r.Intn(2) == 0 {
		num.Neg(num)
	}
	return new(big.Rat).SetFrac(num, den.Add(den, big.NewInt(1)))
}

func TestOfOrdinary(t *testing.T) { // P9.1
	third := exact(big.NewRat(1, 3), new(big.Rat))
	f, e := fmob.Of(exactMap(third, small(0, 0), small(0, 0), small(1, 0)))
	if e != api.OK || bits(real(f.A)) != 0x3fd5555555555555 {
		t.Errorf("a third: %v, %v", f, e)
	}
	for _, m := range []api.Mob{
		exactMap(small(1, 0), small(0, 1), small(0, 0), small(1, 0)),
		exactMap(small(0, 0), small(1, 0), small(1, 0), small(0, 0)),
		exactMap(small(-3, 7), small(1<<54+1, -1), small(1, 0), small(-2, -9)),
		exactMap(third, exact(big.NewRat(-1, 10), big.NewRat(22, 7)), small(1, 0), exact(big.NewRat(-5, 9), big.NewRat(1, 3))),
	} {
		wantOf(t, m)
		m.Turns = true
		wantOf(t, m)
	}
}

func TestOfMany(t *testing.T) { // P9.1
	r := rand.New(rand.NewSource(94))
	refused := 0
	for range 3000 {
		number := func() api.Gauss { return exact(oddRat(r), oddRat(r)) }
		m := exactMap(number(), number(), small(1, 0), number())
		if r.Intn(2) == 0 {
			m.C, m.D = small(0, 0), small(1, 0)
		}
		m.Turns = r.Intn(2) == 0
		if ratOf(m.A.Re).Sign() == 0 && ratOf(m.A.Im).Sign() == 0 {
			continue
		}
		wantOf(t, m)
		if _, ok := nearestMap(m); !ok {
			refused++
		}
	}
	if refused < 100 {
		t.Errorf("only %d have no nearest float", refused)
	}
}

// What is too great stands at each of the places where it may.
func TestOfEnds(t *testing.T) { // P9.1
	limit := new(big.Rat).Sub(twos(1024), twos(970))
	under := new(big.Rat).Sub(limit, big.NewRat(1, 3))
	for _, x := range []*big.Rat{
		limit, new(big.Rat).Neg(limit), under, new(big.Rat).Neg(under), twos(1024), twos(8000), exactly(math.MaxFloat64),
		twos(-1074), twos(-1075), new(big.Rat).Neg(twos(-1075)), new(big.Rat).Mul(twos(-1076), big.NewRat(3, 1)), twos(-8000), new(big.Rat).Neg(twos(-8000)), twos(-1022),
	} {
		none := new(big.Rat)
		for _, z := range []api.Gauss{exact(x, none), exact(none, x), exact(x, x)} {
			o, i := small(0, 0), small(1, 0)
			for _, m := range []api.Mob{
				exactMap(z, o, o, i), exactMap(i, z, o, i), exactMap(z, i, i, o), exactMap(o, z, i, o), exactMap(o, i, i, z),
			} {
				wantOf(t, m)
				m.Turns = true
				wantOf(t, m)
			}
		}
	}
}

func TestOfRefuses(t *testing.T) { // P9.1: ErrArg, ahead of ErrFloat
	for _, m := range wrongMaps() {
		f, e := fmob.Of(m)
		wantErrno(t, "a map that may not be", f, e, api.ErrArg)
		m.Turns = !m.Turns
		f, e = fmob.Of(m)
		wantErrno(t, "a map that may not be", f, e, api.ErrArg)
	}
	big := exact(twos(2000), twos(2000))
	for _, m := range []api.Mob{
		exactMap(big, api.Gauss{}, small(0, 0), small(1, 0)), exactMap(big, small(0, 0), small(0, 0), api.Gauss{}),
		exactMap(big, small(0, 0), small(0, 0), small(2, 0)), exactMap(big, big, small(1, 0), small(1, 0)),
	} {
		f, e := fmob.Of(m)
		wantErrno(t, "too great, and may not be", f, e, api.ErrArg)
	}
}
