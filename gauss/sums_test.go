package gauss_test

import (
	"math/big"
	"math/rand"
	"testing"

	"tracery/api"
	"tracery/gauss"
)

// sums are the operations of two, by the package and by math/big.
func sums() map[string]struct {
	does  ofTwo
	wants func(z, w pair) pair
} {
	return map[string]struct {
		does  ofTwo
		wants func(z, w pair) pair
	}{
		"the sum":        {gauss.Add, pair.add},
		"the difference": {gauss.Sub, pair.sub},
		"the product":    {gauss.Mul, pair.mul},
		"the quotient":   {gauss.Div, pair.quo},
	}
}

// products are those of two that are fractions.
func products() map[string]struct {
	does  fracOfTwo
	wants func(z, w pair) *big.Rat
} {
	return map[string]struct {
		does  fracOfTwo
		wants func(z, w pair) *big.Rat
	}{
		"the dot product":   {gauss.Dot, pair.dot},
		"the cross product": {gauss.Cross, pair.cross},
	}
}

func turns() map[string]struct {
	does  ofOne
	wants func(z pair) pair
} {
	return map[string]struct {
		does  ofOne
		wants func(z pair) pair
	}{
		"the opposite":  {gauss.Neg, pair.neg},
		"the conjugate": {gauss.Conj, pair.conj},
		"i times z":     {gauss.Turn, func(z pair) pair { return pair{new(big.Rat).Neg(z.im), z.re} }},
	}
}

func TestTurns(t *testing.T) { // P4.2
	for name, op := range turns() {
		ones(func(z pair) {
			got, e := op.does(z.number())
			want(t, name, got, e, op.wants(z).number())
		})
		for _, z := range wrong() {
			got, e := op.does(z)
			wantRefused(t, name+" of a wrong one", got, e, api.ErrArg)
		}
	}
}

func TestSums(t *testing.T) { // P4.2
	for name, op := range sums() {
		twoes(func(z, w pair) {
			got, e := op.does(z.number(), w.number())
			if name == "the quotient" && w.zero() {
				wantRefused(t, "over 0", got, e, api.ErrZero)
				return
			}
			wantPair(t, name+" of "+brief(z.number())+" and "+brief(w.number()), got, e, op.wants(z, w))
		})
	}
}

func TestProducts(t *testing.T) { // P4.2
	for name, op := range products() {
		twoes(func(z, w pair) {
			got, e := op.does(z.number(), w.number())
			wantRat(t, name+" of "+brief(z.number())+" and "+brief(w.number()), got, e, op.wants(z, w))
		})
	}
	ones(func(z pair) {
		got, e := gauss.Norm(z.number())
		wantRat(t, "the norm of "+brief(z.number()), got, e, z.dot(z))
	})
}

func TestScale(t *testing.T) { // P4.2
	twoes(func(z, w pair) {
		for _, by := range []*big.Rat{w.re, w.im} {
			got, e := gauss.Scale(z.number(), fraction(by))
			wantPair(t, briefFrac(fraction(by))+" times "+brief(z.number()), got, e, z.scale(by))
		}
	})
	for _, x := range wrongFracs() {
		for _, z := range append(wrong(), good()...) {
			got, e := gauss.Scale(z, x)
			wantRefused(t, "times a wrong one", got, e, api.ErrArg)
		}
	}
	for _, z := range wrong() {
		for _, w := range good() {
			got, e := gauss.Scale(z, w.Re)
			wantRefused(t, "a wrong one times a fraction", got, e, api.ErrArg)
		}
	}
}

func TestSumsRefuseWrongOnes(t *testing.T) { // P4.2
	both := append(wrong(), good()...)
	for _, z := range wrong() {
		for _, w := range both {
			for name, op := range sums() {
				got, e := op.does(z, w)
				wantRefused(t, name+", a wrong one first", got, e, api.ErrArg)
				got, e = op.does(w, z)
				wantRefused(t, name+", a wrong one behind", got, e, api.ErrArg)
			}
			for name, op := range products() {
				got, e := op.does(z, w)
				wantNoFrac(t, name+", a wrong one first", got, e, api.ErrArg)
				got, e = op.does(w, z)
				wantNoFrac(t, name+", a wrong one behind", got, e, api.ErrArg)
			}
		}
		got, e := gauss.Norm(z)
		wantNoFrac(t, "the norm of a wrong one", got, e, api.ErrArg)
	}
}

// A part that is too long comes up ahead of one that may not be.
func TestWrongPartsStandAheadOfLongOnes(t *testing.T) { // P4.2
	most := api.Frac{Num: top(), Den: small(1)}
	z := api.Gauss{Re: most, Im: most}
	for _, x := range wrongFracs() {
		for _, w := range []api.Gauss{{Re: most, Im: x}, {Re: x, Im: most}} {
			got, e := gauss.Add(z, w)
			wantRefused(t, "a sum", got, e, api.ErrArg)
			got, e = gauss.Scale(w, most)
			wantRefused(t, "a wrong one, scaled", got, e, api.ErrArg)
			got, e = gauss.Mul(w, z)
			wantRefused(t, "a product", got, e, api.ErrArg)
		}
	}
}

func TestDivRefusesInOrder(t *testing.T) { // P4.2
	zero := short(0, 0).number()
	for _, z := range good() {
		got, e := gauss.Div(z, zero)
		wantRefused(t, "over 0", got, e, api.ErrZero)
	}
	for _, z := range wrong() {
		got, e := gauss.Div(z, zero)
		wantRefused(t, "a wrong one over 0", got, e, api.ErrArg)
	}
}

func TestSumsAtTheBound(t *testing.T) { // P4.2
	most, half := ofInt(bigOf(top())), ofInt(twos(8*api.MaxWhole-1))
	least := new(big.Rat).Inv(most)
	zero, one, two := big.NewRat(0, 1), big.NewRat(1, 1), big.NewRat(2, 1)
	for _, x := range []struct {
		what string
		does ofTwo
		z, w pair
		want pair
	}{
		{"both the greatest", gauss.Add, pair{new(big.Rat).Sub(most, one), most}, pair{one, zero}, pair{most, most}},
		{"the real part too long", gauss.Add, pair{most, zero}, pair{one, zero}, pair{}},
		{"the imaginary part too long", gauss.Sub, pair{zero, new(big.Rat).Neg(most)}, pair{zero, one}, pair{}},
		{"less itself", gauss.Sub, pair{most, least}, pair{most, least}, pair{zero, zero}},
		{"a real part of a product too long", gauss.Mul, pair{half, one}, pair{two, zero}, pair{}},
		{"an imaginary part of a product too long", gauss.Mul, pair{one, half}, pair{two, zero}, pair{}},
		{"two that come to a short one", gauss.Mul, pair{half, new(big.Rat).Sub(half, one)}, pair{one, one}, pair{one, most}},
		{"1", gauss.Mul, pair{zero, most}, pair{zero, new(big.Rat).Neg(least)}, pair{one, zero}},
		{"0", gauss.Mul, pair{most, least}, pair{zero, zero}, pair{zero, zero}},
		{"over itself", gauss.Div, pair{most, new(big.Rat).Neg(most)}, pair{most, new(big.Rat).Neg(most)}, pair{one, zero}},
		{"over itself, long and short", gauss.Div, pair{most, least}, pair{most, least}, pair{one, zero}},
		{"over the least", gauss.Div, pair{one, zero}, pair{zero, least}, pair{zero, new(big.Rat).Neg(most)}},
		{"twice over the least", gauss.Div, pair{two, zero}, pair{zero, least}, pair{}},
		{"a den too long", gauss.Div, pair{least, zero}, pair{two, zero}, pair{}},
	} {
		got, e := x.does(x.z.number(), x.w.number())
		if x.want.re == nil {
			wantRefused(t, x.what, got, e, api.ErrBig)
			continue
		}
		want(t, x.what, got, e, x.want.number())
	}
	got, e := gauss.Norm(pair{least, zero}.number())
	wantNoFrac(t, "a norm", got, e, api.ErrBig)
	got, e = gauss.Dot(pair{most, most}.number(), pair{most, new(big.Rat).Neg(most)}.number())
	wantRat(t, "a dot product of long ones", got, e, zero)
	got, e = gauss.Cross(pair{most, least}.number(), pair{most, least}.number())
	wantRat(t, "a cross product of one with itself", got, e, zero)
}

// What is too long on the way alone is not refused.
func TestLongOnTheWay(t *testing.T) { // P4.2
	r := rand.New(rand.NewSource(8))
	for range 20 {
		a := pair{ofInt(exactly(r, 500)), ofInt(exactly(r, 500))}
		b := pair{ofInt(exactly(r, 500)), ofInt(exactly(r, 500))}
		c := pair{ofInt(exactly(r, 20)), ofInt(exactly(r, 20))}
		z, w := a.mul(b), c.quo(b)
		if !z.fits() || !w.fits() || fitsRat(new(big.Rat).Mul(z.re, w.re)) {
			t.Fatal("the numbers are not as they should be")
		}
		got, e := gauss.Mul(z.number(), w.number())
		want(t, "a product", got, e, a.mul(c).number())
		got, e = gauss.Div(z.number(), b.number())
		want(t, "a quotient", got, e, a.number())
		got, e = gauss.Div(z.number(), a.mul(c).number())
		wantPair(t, "a quotient of two long ones", got, e, b.quo(c))
		x, f := gauss.Dot(z.conj().number(), w.number())
		wantRat(t, "a dot product", x, f, a.mul(c).re)
		x, f = gauss.Cross(z.conj().number(), w.number())
		wantRat(t, "a cross product", x, f, a.mul(c).im)
	}
}
