package near_test

import (
	"math"
	"math/big"
	"math/rand"
	"testing"

	"tracery/api"
	"tracery/near"
)

func wantOff(t *testing.T, z complex128, w pair) {
	t.Helper()
	want := pairOf(z).minus(w).norm()
	got, e := near.Off(z, w.number())
	if !fits(want) {
		if got != (api.Frac{}) || e != api.ErrBig {
			t.Fatalf("too long: %v, %v", got, e)
		}
		return
	}
	if got != fraction(want) || e != api.OK {
		t.Fatalf("%v: %v, %v", z, got, e)
	}
}

// distances goes over floats beside exact numbers, of all kinds.
func distances(do func(z complex128, w pair)) {
	var exact []*big.Rat
	for _, x := range longFracs() {
		exact = append(exact, ratOf(x))
	}
	for _, f := range []float64{0, 1, -0.1, 0x1p-1074, -math.MaxFloat64} {
		exact = append(exact, about(f)[:4]...)
	}
	l := []float64{minusNought(), 0, 1, -3, 0x1p-1074, -0x1.fffffffffffffp-1022, 0x1p400, -math.MaxFloat64}
	r := rand.New(rand.NewSource(63))
	for _, f := range l {
		for _, g := range l {
			x, y := exact[r.Intn(len(exact))], exact[r.Intn(len(exact))]
			do(complex(f, g), pair{x, y})
			do(complex(f, g), pairOf(complex(g, f)))
		}
	}
	for range 600 {
		do(complex(centred(r, 6), centred(r, 6)), pair{oddRat(r, 3), oddRat(r, 3)})
		do(complex(anyFinite(r), anyFinite(r)), pair{oddRat(r, 12), oddRat(r, 12)})
		z := complex(centred(r, 400), centred(r, 400))
		do(z, pair{exactly(real(z)), oddRat(r, 6)})
		do(z, pair{oddRat(r, 6), exactly(imag(z))})
		do(z, pairOf(z))
	}
}

func TestOff(t *testing.T) { // P6.3
	distances(func(z complex128, w pair) { wantOff(t, z, w) })
	if got, e := near.Off(1+1i, pairOf(1).number()); got != over(1, 1) || e != api.OK {
		t.Errorf("Off(1 + i, 1): %v, %v", got, e)
	}
}

// A square of 1024 bytes goes, one of 1025 is refused, above and below the line.
func TestOffAtTheBound(t *testing.T) { // P6.3
	edge := twos(4096)
	one, nought := big.NewRat(1, 1), new(big.Rat)
	for _, c := range []struct {
		w pair
		e api.Errno
	}{
		{pair{minus(edge, one), nought}, api.OK}, {pair{nought, minus(one, edge)}, api.OK}, {pair{edge, nought}, api.ErrBig}, {pair{nought, opposite(edge)}, api.ErrBig},
		{pair{new(big.Rat).Inv(minus(edge, one)), nought}, api.OK}, {pair{twos(-4096), nought}, api.ErrBig}, {pair{nought, twos(-4095)}, api.OK},
	} {
		wantOff(t, 0, c.w)
		if _, e := near.Off(0, c.w.number()); e != c.e {
			t.Errorf("at the bound: %v, not %v", e, c.e)
		}
	}
}

// farSum is w and floats z such that both parts of z - w are longer than may
// be, and the square of the distance, 2^-2148, is short: a power of 2 + i, over
// one of 5 and one of 2, has a magnitude without 5; and by a good choice of z
// the parts of w have 53 factors 2 fewer below the line.
func farSum() (complex128, pair) {
	turns, u, v := 3085, big.NewInt(1), big.NewInt(0)
	fives := new(big.Int).Exp(big.NewInt(5), big.NewInt(int64(turns)), nil)
	two := func(n *big.Int) *big.Int { return new(big.Int).Lsh(n, 1) }
	for range 2 * turns {
		u, v = new(big.Int).Sub(two(u), v), new(big.Int).Add(two(v), u)
	}
	digits := new(big.Int).Lsh(big.NewInt(1), 53)
	inverse := new(big.Int).ModInverse(fives, digits)
	part := func(n *big.Int) (float64, *big.Rat) {
		m := new(big.Int).Mul(n, inverse)
		m.Mod(m, digits)
		f := math.Ldexp(float64(m.Int64()), -1074)
		away := times(new(big.Rat).SetFrac(n, fives), twos(-1074))
		return f, minus(exactly(f), away)
	}
	re, x := part(u)
	im, y := part(v)
	return complex(re, im), pair{x, y}
}

func TestOffLongOnTheWay(t *testing.T) { // P6.3
	z, w := farSum()
	if away := pairOf(z).minus(w); !fits(w.re) || !fits(w.im) || fits(away.re) || fits(away.im) {
		t.Fatal("the example is none")
	}
	if got, e := near.Off(z, w.number()); got != fraction(twos(-2148)) || e != api.OK {
		t.Errorf("long on the way: %v, %v", got, e)
	}
	for _, c := range []struct {
		bound *big.Rat
		want  bool
	}{{twos(-1074), true}, {minus(twos(-1074), twos(-8000)), false}, {new(big.Rat), false}, {big.NewRat(1, 1), true}} {
		if got, e := near.Within(z, w.number(), fraction(c.bound)); got != c.want || e != api.OK {
			t.Errorf("long on the way: %v, %v", got, e)
		}
	}
}

func TestWithin(t *testing.T) { // P6.3
	bounds := []*big.Rat{new(big.Rat), twos(-1074), big.NewRat(1, 3), big.NewRat(1, 1), exactly(math.MaxFloat64), ratOf(api.Frac{Num: top(), Den: small(1)}), ratOf(api.Frac{Num: small(1), Den: top()})}
	distances(func(z complex128, w pair) {
		off := pairOf(z).minus(w).norm()
		for _, bound := range bounds {
			want := off.Cmp(times(bound, bound)) <= 0
			if got, e := near.Within(z, w.number(), fraction(bound)); got != want || e != api.OK {
				t.Fatalf("%v within %v: %v, %v", z, bound, got, e)
			}
		}
	})
}

// At a distance that is a fraction the bound is just reached, and missed by a
// bit.
func TestWithinAtTheBound(t *testing.T) { // P6.3
	r := rand.New(rand.NewSource(64))
	for range 300 {
		z := complex(centred(r, 30), centred(r, 30))
		by := oddRat(r, 5)
		by.Abs(by)
		w := pairOf(z).plus(pair{times(by, big.NewRat(3, 5)), times(by, big.NewRat(-4, 5))})
		bit := twos(-500)
		for _, c := range []struct {
			bound *big.Rat
			want  bool
		}{{by, true}, {plus(by, bit), true}, {minus(by, bit), false}} {
			if c.bound.Sign() < 0 {
				continue
			}
			if got, e := near.Within(z, w.number(), fraction(c.bound)); got != c.want || e != api.OK {
				t.Fatalf("at the bound: %v, %v; not %v", got, e, c.want)
			}
		}
	}
	for _, c := range []struct {
		bound api.Frac
		want  bool
	}{{over(1, 1), true}, {over(1, 2), false}, {over(0, 1), false}} {
		if got, e := near.Within(1+1i, pairOf(1).number(), c.bound); got != c.want || e != api.OK {
			t.Errorf("Within(1 + i, 1, ..): %v, %v", got, e)
		}
	}
	long := ratOf(api.Frac{Num: top(), Den: small(1)})
	for _, c := range []struct {
		w    pair
		want bool
	}{{pair{long, new(big.Rat)}, true}, {pair{new(big.Rat), opposite(long)}, true}, {pair{long, twos(-8000)}, false}, {pair{long, long}, false}} {
		if got, e := near.Within(0, c.w.number(), fraction(long)); got != c.want || e != api.OK {
			t.Errorf("at the longest bound: %v, %v; not %v", got, e, c.want)
		}
	}
}

func TestOffRefuses(t *testing.T) { // P6.3
	refused := func(z complex128, w api.Gauss, bound api.Frac, want api.Errno) {
		t.Helper()
		if got, e := near.Within(z, w, bound); got || e != want {
			t.Errorf("Within: %v, %v; not %v", got, e, want)
		}
	}
	good := pairOf(1 + 2i).number()
	for _, w := range wrong() {
		for _, z := range append(unfiniteNumbers(), 1) {
			if got, e := near.Off(z, w); got != (api.Frac{}) || e != api.ErrArg {
				t.Errorf("a wrong number: %v, %v", got, e)
			}
			refused(z, w, over(1, 1), api.ErrArg)
			refused(z, w, over(-1, 1), api.ErrArg)
		}
	}
	long := api.Gauss{Re: api.Frac{Num: top(), Den: small(1)}, Im: over(0, 1)}
	for _, z := range unfiniteNumbers() {
		for _, w := range []api.Gauss{good, long} { // a float ahead of a length
			if got, e := near.Off(z, w); got != (api.Frac{}) || e != api.ErrFloat {
				t.Errorf("%v: %v, %v", z, got, e)
			}
			refused(z, w, over(0, 1), api.ErrFloat)
		}
		for _, bound := range append(wrongFracs(), over(-1, 1)) {
			refused(z, good, bound, api.ErrArg)
		}
	}
	for _, bound := range append(wrongFracs(), over(-1, 1), over(-1, 7), api.Frac{Num: below(small(1)), Den: top()}) {
		refused(1, good, bound, api.ErrArg)
	}
}
