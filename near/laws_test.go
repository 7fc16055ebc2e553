package near_test

import (
	"math/big"
	"testing"

	"tracery/api"
	"tracery/near"
)

func TestFloatOfExact(t *testing.T) { // P6.6
	floats(func(f float64) {
		x, e := near.Exact(f)
		if e != api.OK {
			t.Fatal(e)
		}
		for _, way := range []rounding{near.Float, near.Up, near.Down} {
			got, e := way(x)
			wantBits(t, "there and back", got, e, bits(f+0))
		}
	})
}

func TestFloatBetweenDownAndUp(t *testing.T) { // P6.6
	asked := 0
	fractions(func(x *big.Rat) {
		f, noFloat := near.Float(fraction(x))
		up, noUp := near.Up(fraction(x))
		down, noDown := near.Down(fraction(x))
		if noUp == api.OK && exactly(up).Cmp(x) < 0 {
			t.Errorf("Up of %v: %v", x, up)
		}
		if noDown == api.OK && exactly(down).Cmp(x) > 0 {
			t.Errorf("Down of %v: %v", x, down)
		}
		if noUp != api.OK || noDown != api.OK {
			return
		}
		asked++
		if noFloat != api.OK || bits(f) != bits(up) && bits(f) != bits(down) {
			t.Errorf("%v: %v, neither %v nor %v", x, f, down, up)
		}
		g, _ := x.Float64()
		if (bits(up) == bits(down)) != (exactly(g).Cmp(x) == 0) {
			t.Errorf("%v: %v and %v", x, down, up)
		}
	})
	if asked < 3000 {
		t.Errorf("asked %d times", asked)
	}
}

// What lies between the two floats about a fraction is these two alone.
func TestNothingBetweenDownAndUp(t *testing.T) { // P6.6
	fractions(func(x *big.Rat) {
		up, noUp := near.Up(fraction(x))
		down, noDown := near.Down(fraction(x))
		if noUp != api.OK || noDown != api.OK {
			return
		}
		told := 0
		for range near.Between(down, up) {
			if told++; told > 2 {
				break
			}
		}
		if told > 2 || (told == 1) != (down == up) {
			t.Errorf("%v: %d floats from %v to %v", x, told, down, up)
		}
	})
}

func TestOffIsNought(t *testing.T) { // P6.6
	nought := over(0, 1)
	same := 0
	distances(func(z complex128, w pair) {
		got, e := near.Off(z, w.number())
		here := pairOf(z).number() == w.number()
		if (got == nought && e == api.OK) != here {
			t.Errorf("%v: %v, %v", z, got, e)
		}
		if here {
			same++
		}
	})
	if same < 600 {
		t.Errorf("the same %d times", same)
	}
}

// The nearest floats of an exact number are off by at most half of their gaps.
func TestComplexIsNear(t *testing.T) { // P6.6
	var last *big.Rat
	fractions(func(x *big.Rat) {
		y := last
		last = x
		if y == nil || !fits(times(x, x)) || !fits(times(y, y)) {
			return
		}
		z, e := near.Complex(pair{x, y}.number())
		if e != api.OK {
			return
		}
		bound := times(plus(gapOf(real(z)), gapOf(imag(z))), big.NewRat(1, 2))
		if in, e := near.Within(z, pair{x, y}.number(), fraction(bound)); !in || e != api.OK {
			t.Errorf("%v: %v, %v", z, in, e)
		}
	})
}
