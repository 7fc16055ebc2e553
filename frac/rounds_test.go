package frac_test

import (
	"math/big"
	"math/rand"
	"testing"

	"tracery/api"
	"tracery/frac"
)

// floorOf is what Go's own rounding down says.
func floorOf(r *big.Rat) *big.Int { return new(big.Int).Div(r.Num(), r.Denom()) }

// nearestOf takes the nearer one of the two whole numbers beside it.
func nearestOf(r *big.Rat) *big.Int {
	low := floorOf(r)
	high := new(big.Int).Add(low, big.NewInt(1))
	under := new(big.Rat).Sub(r, new(big.Rat).SetInt(low))
	switch under.Cmp(big.NewRat(1, 2)) {
	case -1:
		return low
	case 1:
		return high
	}
	if low.Bit(0) == 0 {
		return low
	}
	return high
}

func TestFloorAndNearest(t *testing.T) { // P3.3
	check := func(r *big.Rat) {
		got, e := frac.Floor(fraction(r))
		wantWhole(t, "rounded down, "+brief(fraction(r)), got, e, number(floorOf(r)))
		got, e = frac.Nearest(fraction(r))
		wantWhole(t, "rounded, "+brief(fraction(r)), got, e, number(nearestOf(r)))
	}
	ones(func(r *big.Rat) {
		check(r)
		check(new(big.Rat).SetFrac(r.Num(), big.NewInt(2)))
	})
	for _, x := range good() {
		check(ratOf(x))
	}
	for _, a := range []api.Whole{top(), plus(top(), -2)} {
		for _, den := range []int64{1, 2, 4} {
			check(ratOf(api.Frac{Num: a, Den: small(den)}))
			check(ratOf(api.Frac{Num: below(a), Den: small(den)}))
		}
		check(ratOf(api.Frac{Num: plus(a, -1), Den: a}))
		check(ratOf(api.Frac{Num: below(plus(a, -1)), Den: a}))
	}
}

func TestRoundsRefuse(t *testing.T) { // P3.3
	for _, x := range wrong() {
		for _, does := range []func(api.Frac) (api.Whole, api.Errno){frac.Floor, frac.Nearest} {
			if got, e := does(x); got != (api.Whole{}) || e != api.ErrArg {
				t.Fatalf("a wrong one rounded is %v, %v", got, e)
			}
		}
	}
}

// simplestOf looks through all fractions, den by den, from 0 on, above ahead
// of below.
func simplestOf(x, y *big.Rat) *big.Rat {
	for den := int64(1); ; den++ {
		for num := int64(0); num <= 40*den; num++ {
			for _, z := range []*big.Rat{big.NewRat(num, den), big.NewRat(-num, den)} {
				if z.Cmp(x) >= 0 && z.Cmp(y) <= 0 {
					return z
				}
			}
		}
	}
}

func TestSimplest(t *testing.T) { // P3.5
	var l []*big.Rat
	for num := int64(-16); num <= 16; num++ {
		for den := int64(1); den <= 9; den++ {
			l = append(l, big.NewRat(num, den))
		}
	}
	for _, x := range l {
		for _, y := range l {
			got, e := frac.Simplest(fraction(x), fraction(y))
			if x.Cmp(y) > 0 {
				wantRefused(t, "bounds the wrong way round", got, e, api.ErrArg)
				continue
			}
			want(t, "the simplest from "+x.String()+" to "+y.String(), got, e, fraction(simplestOf(x, y)))
		}
	}
}

// simplestAbove goes by the whole number that is not below x, if it is not
// above y, and else by what both are above the whole number below them. It
// wants both above 0.
func simplestAbove(x, y *big.Rat) *big.Rat {
	low := new(big.Rat).SetInt(floorOf(x))
	if low.Cmp(x) == 0 {
		return low
	}
	if high := new(big.Rat).Add(low, big.NewRat(1, 1)); high.Cmp(y) <= 0 {
		return high
	}
	x, y = new(big.Rat).Sub(x, low), new(big.Rat).Sub(y, low)
	z := simplestAbove(y.Inv(y), x.Inv(x))
	return z.Add(z.Inv(z), low)
}

func TestSimplestOfLongOnes(t *testing.T) { // P3.5
	r := rand.New(rand.NewSource(7))
	for range 3000 {
		x := oddRat(r, 1+r.Intn(20))
		x.Abs(x)
		by := big.NewRat(1, 1+r.Int63n(1<<uint(1+r.Intn(60))))
		y := new(big.Rat).Add(x, by)
		if x.Sign() == 0 {
			continue
		}
		wanted := simplestAbove(x, y)
		got, e := frac.Simplest(fraction(x), fraction(y))
		want(t, "the simplest of long ones", got, e, fraction(wanted))
		got, e = frac.Simplest(fraction(y.Neg(y)), fraction(x.Neg(x)))
		want(t, "the simplest below 0", got, e, fraction(wanted.Neg(wanted)))
	}
}

func TestSimplestAtTheBound(t *testing.T) { // P3.5
	one := small(1)
	most := api.Frac{Num: top(), Den: one}
	least := api.Frac{Num: one, Den: top()}
	near := api.Frac{Num: plus(top(), -1), Den: top()}
	for _, x := range []struct{ x, y, want api.Frac }{
		{most, most, most},
		{least, least, least},
		{near, near, near},
		{near, over(1, 1), over(1, 1)},
		{least, near, over(1, 2)},
		{least, most, over(1, 1)},
		{over(0, 1), least, over(0, 1)},
		{api.Frac{Num: below(top()), Den: one}, over(0, 1), over(0, 1)},
		{api.Frac{Num: plus(top(), -1), Den: one}, most, api.Frac{Num: plus(top(), -1), Den: one}},
		{least, api.Frac{Num: one, Den: plus(top(), -1)}, api.Frac{Num: one, Den: plus(top(), -1)}},
	} {
		got, e := frac.Simplest(x.x, x.y)
		want(t, "the simplest at the bound", got, e, x.want)
	}
	x, y := longest()
	got, e := frac.Simplest(x, y)
	want(t, "the simplest of two that are alike for long", got, e, fraction(simplestAbove(ratOf(x), ratOf(y))))
}

func TestSimplestRefuses(t *testing.T) { // P3.5
	for _, x := range wrong() {
		for _, y := range append(wrong(), good()...) {
			got, e := frac.Simplest(x, y)
			wantRefused(t, "a wrong bound below", got, e, api.ErrArg)
			got, e = frac.Simplest(y, x)
			wantRefused(t, "a wrong bound above", got, e, api.ErrArg)
		}
	}
}
