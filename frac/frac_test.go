package frac_test

import (
	"math"
	"math/big"
	"testing"

	"tracery/api"
	"tracery/frac"
)

func TestMay(t *testing.T) { // P3.1
	for _, x := range good() {
		if !frac.May(x) {
			t.Errorf("%s may not be", brief(x))
		}
	}
	for i, x := range wrong() {
		if frac.May(x) {
			t.Errorf("the wrong one %d, %s, may be", i, brief(x))
		}
	}
	ones(func(r *big.Rat) {
		x := fraction(r)
		if !frac.May(x) {
			t.Fatalf("%v may not be", r)
		}
		twice := api.Frac{Num: number(new(big.Int).Lsh(r.Num(), 1)), Den: number(new(big.Int).Lsh(r.Denom(), 1))}
		turned := api.Frac{Num: number(new(big.Int).Neg(r.Num())), Den: number(new(big.Int).Neg(r.Denom()))}
		if frac.May(twice) || frac.May(turned) {
			t.Fatalf("%v may be in another form", r)
		}
	})
}

func TestOf(t *testing.T) { // P3.1
	for num := int64(-40); num <= 40; num++ {
		for den := int64(-40); den <= 40; den++ {
			got, e := frac.Of(small(num), small(den))
			if den == 0 {
				wantRefused(t, "over 0", got, e, api.ErrZero)
				continue
			}
			want(t, "a fraction of two", got, e, over(num, den))
		}
	}
	pairs(func(x, y *big.Rat) {
		if y.Num().Sign() == 0 {
			return
		}
		got, e := frac.Of(number(x.Num()), number(y.Num()))
		wantRat(t, "a fraction of two", got, e, new(big.Rat).SetFrac(x.Num(), y.Num()))
	})
}

func TestOfRefuses(t *testing.T) { // P3.1
	for _, a := range wrongWholes() {
		for _, b := range append(wrongWholes(), small(0), small(3), wide(api.MaxWide)) {
			got, e := frac.Of(a, b)
			wantRefused(t, "a wrong one above", got, e, api.ErrArg)
			got, e = frac.Of(b, a)
			wantRefused(t, "a wrong one below", got, e, api.ErrArg)
		}
	}
	for _, a := range []api.Whole{small(0), small(1), past(), wide(api.MaxWide)} {
		got, e := frac.Of(a, small(0))
		wantRefused(t, "over 0", got, e, api.ErrZero)
	}
}

func TestOfAtTheBound(t *testing.T) { // P3.1
	all := wide(api.MaxWide)
	one := small(1)
	for _, x := range []struct {
		num, den api.Whole
		want     api.Frac
	}{
		{top(), one, api.Frac{Num: top(), Den: one}},
		{top(), small(-1), api.Frac{Num: below(top()), Den: one}},
		{small(-1), below(top()), api.Frac{Num: one, Den: top()}},
		{all, all, over(1, 1)},
		{below(all), all, over(-1, 1)},
		{small(0), all, over(0, 1)},
		{small(0), below(past()), over(0, 1)},
		{past(), small(2), api.Frac{Num: number(new(big.Int).Rsh(bigOf(past()), 1)), Den: one}},
		{small(-2), past(), api.Frac{Num: small(-1), Den: number(new(big.Int).Rsh(bigOf(past()), 1))}},
	} {
		got, e := frac.Of(x.num, x.den)
		want(t, "at the bound", got, e, x.want)
	}
	for _, x := range [][2]api.Whole{{past(), one}, {below(past()), one}, {one, past()}, {small(3), below(past())}, {past(), top()}, {top(), past()}, {all, one}, {small(-1), all}} {
		got, e := frac.Of(x[0], x[1])
		wantRefused(t, "past the bound", got, e, api.ErrBig)
	}
}

var sharp = [...]int64{math.MinInt64, math.MinInt64 + 1, math.MinInt32, -256, -255, -6, -4, -1, 0, 1, 4, 6, 255, 256, math.MaxInt32, math.MaxInt64 - 1, math.MaxInt64}

func TestIntAndSmall(t *testing.T) { // P3.1
	for _, num := range sharp {
		want(t, "a whole one", frac.Int(num), api.OK, api.Frac{Num: small(num), Den: small(1)})
		for _, den := range sharp {
			got, e := frac.Small(num, den)
			if den == 0 {
				wantRefused(t, "over 0", got, e, api.ErrZero)
				continue
			}
			want(t, "of two small ones", got, e, over(num, den))
		}
	}
	got, e := frac.Small(6, -4)
	want(t, "6 over -4", got, e, api.Frac{Num: small(-3), Den: small(2)})
	got, e = frac.Small(0, -5)
	want(t, "0 over -5", got, e, api.Frac{Den: small(1)})
	got, e = frac.Small(0, 0)
	wantRefused(t, "0 over 0", got, e, api.ErrZero)
}

func TestSign(t *testing.T) { // P3.2
	ones(func(r *big.Rat) {
		if got := frac.Sign(fraction(r)); got != r.Sign() {
			t.Fatalf("the sign of %v is %d", r, got)
		}
	})
	for _, x := range wrong() {
		if got := frac.Sign(x); got != 0 {
			t.Errorf("the sign of a wrong one is %d", got)
		}
	}
}

func TestCmp(t *testing.T) { // P3.2
	compare := func(x, y *big.Rat) {
		if got, e := frac.Cmp(fraction(x), fraction(y)); got != x.Cmp(y) || e != api.OK {
			t.Fatalf("%v against %v: %d, %v", x, y, got, e)
		}
	}
	pairs(func(x, y *big.Rat) {
		compare(x, y)
		compare(x, x)
	})
	for _, x := range good() {
		for _, y := range good() {
			compare(ratOf(x), ratOf(y))
		}
		for _, y := range wrong() {
			for _, z := range append(wrong(), x) {
				a, e := frac.Cmp(y, z)
				b, f := frac.Cmp(z, y)
				if a != 0 || b != 0 || e != api.ErrArg || f != api.ErrArg {
					t.Fatalf("a wrong one: %d, %v; %d, %v", a, e, b, f)
				}
			}
		}
	}
}
