package near_test

import (
	"math"
	"math/big"
	"testing"

	"tracery/api"
	"tracery/near"
)

type rounding = func(x api.Frac) (float64, api.Errno)

func wantBits(t *testing.T, what string, got float64, e api.Errno, want uint64) {
	t.Helper()
	if bits(got) != want || e != api.OK {
		t.Errorf("%s: %x, %v; not %x", what, bits(got), e, want)
	}
}

func wantNoFloat(t *testing.T, what string, got float64, e, want api.Errno) {
	t.Helper()
	if bits(got) != 0 || e != want {
		t.Errorf("%s: %x, %v; not %v", what, bits(got), e, want)
	}
}

// nearestOf, leastNotBelow and greatestNotAbove go by math/big's own rounding
// and by the next floats; false, if there is none.
func nearestOf(x *big.Rat) (float64, bool) {
	f, _ := x.Float64()
	return f + 0, isFinite(f)
}

func leastNotBelow(x *big.Rat) (float64, bool) {
	f, _ := x.Float64()
	switch {
	case x.Cmp(exactly(math.MaxFloat64)) > 0:
		return 0, false
	case x.Cmp(exactly(-math.MaxFloat64)) < 0:
		return -math.MaxFloat64, true
	case exactly(f).Cmp(x) < 0:
		f = math.Nextafter(f, math.Inf(1))
	}
	return f + 0, true
}

func greatestNotAbove(x *big.Rat) (float64, bool) {
	f, ok := leastNotBelow(opposite(x))
	return 0 - f, ok
}

func TestRoundings(t *testing.T) { // P6.1
	for _, c := range []struct {
		name string
		got  rounding
		want func(x *big.Rat) (float64, bool)
	}{
		{"Float", near.Float, nearestOf}, {"Up", near.Up, leastNotBelow}, {"Down", near.Down, greatestNotAbove},
	} {
		refused := 0
		fractions(func(x *big.Rat) {
			got, e := c.got(fraction(x))
			want, ok := c.want(x)
			if ok {
				wantBits(t, c.name, got, e, bits(want))
			} else {
				wantNoFloat(t, c.name, got, e, api.ErrFloat)
				refused++
			}
		})
		if refused == 0 {
			t.Errorf("%s: nothing was refused", c.name)
		}
	}
}

func TestRoundingExamples(t *testing.T) { // P6.1
	for _, c := range []struct {
		name string
		f    rounding
		x    *big.Rat
		want uint64
	}{
		{"Float(1/2)", near.Float, big.NewRat(1, 2), 0x3fe0000000000000},
		{"Float(1/3)", near.Float, big.NewRat(1, 3), 0x3fd5555555555555},
		{"Float(1/10)", near.Float, big.NewRat(1, 10), 0x3fb999999999999a},
		{"Up(1/3)", near.Up, big.NewRat(1, 3), 0x3fd5555555555556},
		{"Down(1/3)", near.Down, big.NewRat(1, 3), 0x3fd5555555555555},
		{"Up(0)", near.Up, new(big.Rat), 0},
		{"Down(0)", near.Down, new(big.Rat), 0},
		{"Float(0)", near.Float, new(big.Rat), 0},
		{"Down(-1/3)", near.Down, big.NewRat(-1, 3), 0xbfd5555555555556},
		{"Up(-1/3)", near.Up, big.NewRat(-1, 3), 0xbfd5555555555555},
	} {
		got, e := c.f(fraction(c.x))
		wantBits(t, c.name, got, e, c.want)
	}
	got, e := near.Float(fraction(twos(1024)))
	wantNoFloat(t, "Float(2^1024)", got, e, api.ErrFloat)
}

// Of two as near, the one whose last bit is 0; at the least floats and at the
// first ones of an exponent too.
func TestTies(t *testing.T) { // P6.1
	for _, c := range []struct {
		f    float64
		want uint64
	}{
		{1, 0x3ff0000000000000}, {0x1.0000000000001p0, 0x3ff0000000000002}, {0x1.fffffffffffffp0, 0x4000000000000000}, {-0x1.0000000000001p0, 0xbff0000000000002},
		{0, 0}, {0x1p-1074, 2}, {0x1p-1073, 2}, {-0x1p-1074, signBit | 2}, {0x0.fffffffffffffp-1022, 0x0010000000000000}, {0x1p-1022, 0x0010000000000000}, {0x1.ffffffffffffep1023, 0x7feffffffffffffe},
	} {
		half := times(gapOf(c.f), big.NewRat(1, 2))
		if c.f < 0 {
			half.Neg(half)
		}
		got, e := near.Float(fraction(plus(exactly(c.f), half)))
		wantBits(t, "a tie", got, e, c.want)
	}
}

// What is nearest to 0 is +0, from below too, and Up and Down name +0 alone.
func TestNearNought(t *testing.T) { // P6.1
	for _, x := range []*big.Rat{twos(-1075), twos(-1076), twos(-8000), times(twos(-1080), big.NewRat(31, 1))} {
		for _, c := range []struct {
			name string
			f    rounding
			x    *big.Rat
			want uint64
		}{
			{"Float", near.Float, x, 0}, {"Float from below", near.Float, opposite(x), 0},
			{"Up", near.Up, x, 1}, {"Up from below", near.Up, opposite(x), 0},
			{"Down", near.Down, x, 0}, {"Down from below", near.Down, opposite(x), signBit | 1},
		} {
			got, e := c.f(fraction(c.x))
			wantBits(t, c.name, got, e, c.want)
		}
	}
	got, e := near.Float(fraction(plus(twos(-1075), twos(-4000))))
	wantBits(t, "just above the half of the least", got, e, 1)
}

// There is no nearest float from 2^1024 - 2^970 on; none that is not below what
// is above the greatest.
func TestBeyondTheGreatest(t *testing.T) { // P6.1
	greatest, bit := exactly(math.MaxFloat64), twos(-5000)
	edge := minus(twos(1024), twos(970))
	most, least := bits(math.MaxFloat64), bits(-math.MaxFloat64)
	for _, c := range []struct {
		name    string
		f       rounding
		x       *big.Rat
		want    uint64
		refused bool
	}{
		{"Float below the edge", near.Float, minus(edge, bit), most, false},
		{"Float at the edge", near.Float, edge, 0, true},
		{"Float above the edge", near.Float, plus(edge, bit), 0, true},
		{"Float below the lower edge", near.Float, opposite(edge), 0, true},
		{"Float at the lower edge, less a bit", near.Float, plus(opposite(edge), bit), least, false},
		{"Float of the longest", near.Float, ratOf(api.Frac{Num: top(), Den: small(1)}), 0, true},
		{"Up at the greatest", near.Up, greatest, most, false},
		{"Up above it", near.Up, plus(greatest, bit), 0, true},
		{"Up below the least", near.Up, opposite(plus(greatest, bit)), least, false},
		{"Up far below the least", near.Up, opposite(twos(8000)), least, false},
		{"Down at the least", near.Down, opposite(greatest), least, false},
		{"Down below it", near.Down, opposite(plus(greatest, bit)), 0, true},
		{"Down above the greatest", near.Down, plus(greatest, bit), most, false},
		{"Down far above the greatest", near.Down, ratOf(api.Frac{Num: top(), Den: small(1)}), most, false},
		{"Down of a power of 2 above", near.Down, twos(1024), most, false},
		{"Up of a power of 2 below", near.Up, opposite(twos(1024)), least, false},
		{"Down far below", near.Down, opposite(twos(1025)), 0, true},
	} {
		got, e := c.f(fraction(c.x))
		if c.refused {
			wantNoFloat(t, c.name, got, e, api.ErrFloat)
		} else {
			wantBits(t, c.name, got, e, c.want)
		}
	}
}

func TestRoundingsRefuse(t *testing.T) { // P6.1
	for _, x := range wrongFracs() {
		for _, f := range []rounding{near.Float, near.Up, near.Down} {
			got, e := f(x)
			wantNoFloat(t, "a wrong fraction", got, e, api.ErrArg)
		}
	}
}

func TestComplex(t *testing.T) { // P6.1
	var last *big.Rat
	check := func(z pair) {
		re, ok := nearestOf(z.re)
		im, also := nearestOf(z.im)
		got, e := near.Complex(z.number())
		if ok && also {
			wantBits(t, "the real part", real(got), e, bits(re))
			wantBits(t, "the imaginary part", imag(got), e, bits(im))
		} else if bits(real(got)) != 0 || bits(imag(got)) != 0 || e != api.ErrFloat {
			t.Errorf("no float: %v, %v", got, e)
		}
	}
	fractions(func(x *big.Rat) {
		if last != nil {
			check(pair{last, x})
		}
		last = x
	})
	far := twos(1024)
	for _, z := range []pair{{far, big.NewRat(1, 3)}, {big.NewRat(1, 3), far}, {far, opposite(far)}} {
		check(z)
	}
}

func TestComplexRefuses(t *testing.T) { // P6.1
	for _, x := range wrongFracs() {
		far := fraction(twos(1024))
		for _, z := range []api.Gauss{{Re: x, Im: over(1, 2)}, {Re: over(1, 2), Im: x}, {Re: x, Im: x}, {Re: x, Im: far}, {Re: far, Im: x}} {
			if got, e := near.Complex(z); got != 0 || e != api.ErrArg {
				t.Errorf("a wrong number: %v, %v", got, e)
			}
		}
	}
}
