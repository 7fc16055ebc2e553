package sphere

import (
	"math/big"

	"tracery/api"
	"tracery/frac"
)

// wide is a point on its way: re + im i, over den, which is 0 of infinity and
// above 0 else. Its numbers have any length, and need not be in lowest terms.
// What the pointers lead to is shared, and so is never changed.
type wide struct {
	re, im, den *big.Int
}

// wideOf is for points that may be.
func wideOf(p api.Point) wide {
	if p.Inf {
		return wide{re: big.NewInt(1), im: big.NewInt(0), den: big.NewInt(0)}
	}
	x, y := ratioOf(p.Z.Re), ratioOf(p.Z.Im)
	if p.Z.Re.Den == p.Z.Im.Den {
		return wide{re: x.num, im: y.num, den: x.den}
	}
	return wide{re: times(x.num, y.den), im: times(y.num, x.den), den: times(x.den, y.den)}
}

func (z wide) norm() *big.Int { return plus(square(z.re), square(z.im)) }

// weight is what a point's coordinates on the ball are over.
func (z wide) weight() *big.Int { return plus(z.norm(), square(z.den)) }

// east, north and up are those coordinates, times the weight.

func (z wide) east() *big.Int { return twice(times(z.re, z.den)) }

func (z wide) north() *big.Int { return twice(times(z.im, z.den)) }

func (z wide) up() *big.Int { return minus(z.norm(), square(z.den)) }

// gap is a quarter of the chord, times both weights.
func (z wide) gap(w wide) *big.Int {
	re := minus(times(z.re, w.den), times(w.re, z.den))
	im := minus(times(z.im, w.den), times(w.im, z.den))
	return plus(square(re), square(im))
}

// told is for numbers.
func (z wide) told() (api.Point, api.Errno) {
	re, e := ratio{num: z.re, den: z.den}.told()
	if e != api.OK {
		return api.Point{}, e
	}
	im, e := ratio{num: z.im, den: z.den}.told()
	if e != api.OK {
		return api.Point{}, e
	}
	return api.Point{Z: api.Gauss{Re: re, Im: im}}, api.OK
}

// ratio is a fraction on its way. Its den is above 0, or 0 of beyond.
type ratio struct {
	num, den *big.Int
}

// ratioOf is for fractions that may be.
func ratioOf(x api.Frac) ratio { return ratio{num: bigOf(x.Num), den: bigOf(x.Den)} }

// beyond is above all fractions, and the same as itself.
func beyond() ratio { return ratio{num: big.NewInt(1), den: big.NewInt(0)} }

func (x ratio) cmp(y ratio) int { return times(x.num, y.den).Cmp(times(y.num, x.den)) }

// told answers the fraction in lowest terms. What is made here of numbers that
// may be is no longer than whole numbers may be, so that just the fraction's
// own length is refused.
func (x ratio) told() (api.Frac, api.Errno) { return frac.Of(wholeOf(x.num), wholeOf(x.den)) }

func bigOf(a api.Whole) *big.Int {
	n := new(big.Int).SetBytes([]byte(a.Mag))
	if a.Neg {
		n.Neg(n)
	}
	return n
}

func wholeOf(n *big.Int) api.Whole { return api.Whole{Neg: n.Sign() < 0, Mag: string(n.Bytes())} }

func plus(a, b *big.Int) *big.Int { return new(big.Int).Add(a, b) }

func minus(a, b *big.Int) *big.Int { return new(big.Int).Sub(a, b) }

func times(a, b *big.Int) *big.Int { return new(big.Int).Mul(a, b) }

func over(a, b *big.Int) *big.Int { return new(big.Int).Quo(a, b) }

func twice(a *big.Int) *big.Int { return plus(a, a) }

func square(a *big.Int) *big.Int { return times(a, a) }
