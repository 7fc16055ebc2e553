package gauss_test

import (
	"math"
	"math/big"
	"testing"

	"tracery/api"
	"tracery/gauss"
)

func TestMay(t *testing.T) { // P4.1
	ones(func(z pair) {
		if !gauss.May(z.number()) {
			t.Fatalf("%s may not be", brief(z.number()))
		}
	})
	for i, z := range wrong() {
		if gauss.May(z) {
			t.Errorf("the wrong one %d may be", i)
		}
	}
	if gauss.May(api.Gauss{}) {
		t.Error("the zero Gauss may be")
	}
}

func TestOf(t *testing.T) { // P4.1
	ones(func(z pair) {
		got, e := gauss.Of(fraction(z.re), fraction(z.im))
		want(t, "a number of its parts", got, e, z.number())
	})
	for _, z := range wrong() {
		got, e := gauss.Of(z.Re, z.Im)
		wantRefused(t, "a number of wrong parts", got, e, api.ErrArg)
	}
}

func TestInt(t *testing.T) { // P4.1
	sharp := []int64{math.MinInt64, math.MinInt64 + 1, -256, -1, 0, 1, 255, 256, math.MaxInt32, math.MaxInt64}
	for _, re := range sharp {
		for _, im := range sharp {
			want(t, "a number of whole parts", gauss.Int(re, im), api.OK, short(re, im).number())
		}
	}
}

func TestZeroAndReal(t *testing.T) { // P4.1
	ones(func(z pair) {
		if got := gauss.Zero(z.number()); got != z.zero() {
			t.Fatalf("that %s is 0: %v", brief(z.number()), got)
		}
		if got := gauss.Real(z.number()); got != (z.im.Sign() == 0) {
			t.Fatalf("that %s is real: %v", brief(z.number()), got)
		}
	})
	for i, z := range wrong() {
		if gauss.Zero(z) || gauss.Real(z) {
			t.Errorf("the wrong one %d is 0, or real", i)
		}
	}
}

// order is that of the chapter's words.
func order(z, w pair) int {
	if re := z.re.Cmp(w.re); re != 0 {
		return re
	}
	return z.im.Cmp(w.im)
}

func TestCmp(t *testing.T) { // P4.6
	check := func(z, w pair) {
		if got, e := gauss.Cmp(z.number(), w.number()); got != order(z, w) || e != api.OK {
			t.Fatalf("%s against %s: %d, %v", brief(z.number()), brief(w.number()), got, e)
		}
	}
	twoes(func(z, w pair) {
		check(z, w)
		check(z, z)
		check(z, pair{z.re, w.im})
		check(z, pair{w.re, z.im})
	})
	check(short(1, 0), short(0, 1))
	check(short(0, 1), short(0, 2))
	check(pair{big.NewRat(1, 3), big.NewRat(9, 1)}, pair{big.NewRat(1, 2), big.NewRat(-9, 1)})
}

func TestCmpRefuses(t *testing.T) { // P4.6
	for _, z := range wrong() {
		for _, w := range append(wrong(), good()...) {
			a, e := gauss.Cmp(z, w)
			b, f := gauss.Cmp(w, z)
			if a != 0 || b != 0 || e != api.ErrArg || f != api.ErrArg {
				t.Fatalf("a wrong one: %d, %v; %d, %v", a, e, b, f)
			}
		}
	}
}
