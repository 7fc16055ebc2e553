package frac_test

import (
	"math/big"
	"testing"

	"tracery/api"
	"tracery/frac"
)

// sums are the operations of two, by the package and by math/big.
func sums() map[string]struct {
	does  ofTwo
	wants func(z, x, y *big.Rat) *big.Rat
} {
	return map[string]struct {
		does  ofTwo
		wants func(z, x, y *big.Rat) *big.Rat
	}{
		"the sum":        {frac.Add, (*big.Rat).Add},
		"the difference": {frac.Sub, (*big.Rat).Sub},
		"the product":    {frac.Mul, (*big.Rat).Mul},
		"the quotient":   {frac.Div, (*big.Rat).Quo},
	}
}

func TestSums(t *testing.T) { // P3.2
	for name, op := range sums() {
		check := func(x, y *big.Rat) {
			got, e := op.does(fraction(x), fraction(y))
			if name == "the quotient" && y.Sign() == 0 {
				wantRefused(t, "over 0", got, e, api.ErrZero)
				return
			}
			wantRat(t, name+" of "+brief(fraction(x))+" and "+brief(fraction(y)), got, e, op.wants(new(big.Rat), x, y))
		}
		pairs(check)
		for _, x := range good() {
			for _, y := range good() {
				check(ratOf(x), ratOf(y))
			}
		}
	}
}

func TestSumsRefuseWrongOnes(t *testing.T) { // P3.2
	for name, op := range sums() {
		for _, x := range wrong() {
			for _, y := range append(wrong(), good()...) {
				got, e := op.does(x, y)
				wantRefused(t, name+", a wrong one first", got, e, api.ErrArg)
				got, e = op.does(y, x)
				wantRefused(t, name+", a wrong one behind", got, e, api.ErrArg)
			}
		}
	}
	for name, does := range map[string]ofOne{"the opposite": frac.Neg, "the magnitude": frac.Abs, "the root": frac.Sqrt} {
		for _, x := range wrong() {
			got, e := does(x)
			wantRefused(t, name+" of a wrong one", got, e, api.ErrArg)
		}
	}
}

func TestNegAndAbs(t *testing.T) { // P3.2
	check := func(r *big.Rat) {
		got, e := frac.Neg(fraction(r))
		want(t, "the opposite", got, e, fraction(new(big.Rat).Neg(r)))
		got, e = frac.Abs(fraction(r))
		want(t, "the magnitude", got, e, fraction(new(big.Rat).Abs(r)))
	}
	ones(check)
	for _, x := range good() {
		check(ratOf(x))
	}
}

func TestSumsAtTheBound(t *testing.T) { // P3.2
	one := small(1)
	most := api.Frac{Num: top(), Den: one}
	least := api.Frac{Num: one, Den: top()}
	half := number(new(big.Int).Rsh(bigOf(past()), 1))
	for _, x := range []struct {
		what string
		does ofTwo
		x, y api.Frac
		want api.Frac
	}{
		{"the greatest", frac.Add, api.Frac{Num: plus(top(), -1), Den: one}, over(1, 1), most},
		{"one past it", frac.Add, most, over(1, 1), api.Frac{}},
		{"one past the least", frac.Sub, api.Frac{Num: below(top()), Den: one}, over(1, 1), api.Frac{}},
		{"less itself", frac.Sub, most, most, over(0, 1)},
		{"a half more", frac.Add, most, over(1, 2), api.Frac{}},
		{"long on the way alone", frac.Add, api.Frac{Num: one, Den: half}, api.Frac{Num: one, Den: half}, api.Frac{Num: one, Den: number(new(big.Int).Rsh(bigOf(half), 1))}},
		{"a den that is too long", frac.Add, least, api.Frac{Num: one, Den: plus(top(), -1)}, api.Frac{}},
		{"a product that is 1", frac.Mul, most, least, over(1, 1)},
		{"a product with 0", frac.Mul, most, over(0, 1), over(0, 1)},
		{"twice", frac.Mul, most, over(2, 1), api.Frac{}},
		{"half of it", frac.Mul, most, over(1, 2), api.Frac{Num: top(), Den: small(2)}},
		{"half of the least", frac.Mul, least, over(-1, 2), api.Frac{}},
		{"half", frac.Div, api.Frac{Num: half, Den: one}, over(-2, 1), api.Frac{Num: below(number(new(big.Int).Rsh(bigOf(half), 1))), Den: one}},
		{"over the half", frac.Div, api.Frac{Num: half, Den: one}, over(1, 2), api.Frac{}},
		{"over the least", frac.Div, least, least, over(1, 1)},
		{"0 over it", frac.Div, over(0, 1), least, over(0, 1)},
		{"over what is below 0", frac.Div, over(1, 1), api.Frac{Num: below(top()), Den: plus(top(), -1)}, api.Frac{Num: below(plus(top(), -1)), Den: top()}},
	} {
		got, e := x.does(x.x, x.y)
		if x.want == (api.Frac{}) {
			wantRefused(t, x.what, got, e, api.ErrBig)
			continue
		}
		want(t, x.what, got, e, x.want)
	}
}

func TestDivRefusesInOrder(t *testing.T) { // P3.2
	for _, x := range good() {
		got, e := frac.Div(x, over(0, 1))
		wantRefused(t, "over 0", got, e, api.ErrZero)
	}
	for _, x := range wrong() {
		got, e := frac.Div(x, over(0, 1))
		wantRefused(t, "a wrong one over 0", got, e, api.ErrArg)
	}
}

func TestSqrt(t *testing.T) { // P3.4
	ones(func(r *big.Rat) {
		square := new(big.Rat).Mul(r, r)
		if !fits(square) {
			return
		}
		got, e := frac.Sqrt(fraction(square))
		want(t, "the root of a square", got, e, fraction(new(big.Rat).Abs(r)))
		if r.Sign() != 0 {
			got, e = frac.Sqrt(fraction(new(big.Rat).Neg(square)))
			wantRefused(t, "the root of a square's opposite", got, e, api.ErrNone)
		}
		for _, factor := range []*big.Rat{big.NewRat(2, 1), big.NewRat(1, 3), big.NewRat(6, 5), big.NewRat(-4, 1)} {
			if other := new(big.Rat).Mul(square, factor); r.Sign() != 0 && fits(other) {
				got, e := frac.Sqrt(fraction(other))
				wantRefused(t, "the root of no square", got, e, api.ErrNone)
			}
		}
	})
	root := wide(api.MaxWhole / 2)
	square := number(new(big.Int).Mul(bigOf(root), bigOf(root)))
	got, e := frac.Sqrt(api.Frac{Num: small(1), Den: square})
	want(t, "the root of a long one", got, e, api.Frac{Num: small(1), Den: root})
	got, e = frac.Sqrt(api.Frac{Num: plus(square, 1), Den: small(1)})
	wantRefused(t, "the root of one more than a square", got, e, api.ErrNone)
}
