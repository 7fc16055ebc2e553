package near

import (
	"math"
	"math/big"

	"tracery/api"
	"tracery/frac"
)

// Float tells the nearest float.
func Float(x api.Frac) (float64, api.Errno) { return rounded(x, cut.nearest) }

// Complex tells the nearest floats of both parts.
func Complex(z api.Gauss) (complex128, api.Errno) {
	re, e := Float(z.Re)
	im, f := Float(z.Im)
	switch {
	case e == api.ErrArg || f == api.ErrArg:
		return 0, api.ErrArg
	case e != api.OK || f != api.OK:
		return 0, api.ErrFloat
	}
	return complex(re, im), api.OK
}

// Up tells the least float that is not below.
func Up(x api.Frac) (float64, api.Errno) {
	return rounded(x, func(c cut) uint64 {
		if c.neg {
			return c.inward()
		}
		return c.outward()
	})
}

// Down tells the greatest float that is not above.
func Down(x api.Frac) (float64, api.Errno) {
	return rounded(x, func(c cut) uint64 {
		if c.neg {
			return c.outward()
		}
		return c.inward()
	})
}

// rounded answers the float of a fraction's sign whose magnitude has the bits
// that choose takes.
func rounded(x api.Frac, choose func(c cut) uint64) (float64, api.Errno) {
	if !frac.May(x) {
		return 0, api.ErrArg
	}
	c := cutOf(x)
	chosen := choose(c)
	switch {
	case chosen > greatest:
		return 0, api.ErrFloat
	case c.neg && chosen != 0: // what comes to 0 is +0, from below too
		chosen |= signBit
	}
	return math.Float64frombits(chosen), api.OK
}

// cut tells where a fraction's magnitude lies among the floats.
type cut struct {
	neg  bool
	at   uint64 // the bits of the greatest finite float that is not above it
	rest int    // none, less, half or more
}

// How what is left above the float at a cut is to half of the way to the next.
const (
	none = iota
	less
	half
	more
)

func (c cut) inward() uint64 { return c.at }

func (c cut) outward() uint64 {
	if c.rest == none {
		return c.at
	}
	return c.at + 1
}

func (c cut) nearest() uint64 {
	if c.rest == more || c.rest == half && c.at&1 == 1 {
		return c.at + 1
	}
	return c.at
}

// cutOf is for fractions that may be.
func cutOf(x api.Frac) cut {
	if x == frac.Int(0) {
		return cut{}
	}
	num, den := magnitude(x.Num), magnitude(x.Den)
	power := topPower(num, den)
	if power > 1023 {
		return cut{neg: x.Num.Neg, at: greatest, rest: more}
	}
	unit := max(power-tail, least)
	num, den = scaled(num, den, -unit)
	digits, rest := new(big.Int).QuoRem(num, den, new(big.Int))
	return cut{neg: x.Num.Neg, at: joined(digits.Uint64(), unit), rest: toHalf(rest, den)}
}

// topPower answers the greatest power of 2 that is not above num over den,
// which is above 0.
func topPower(num, den *big.Int) int {
	power := num.BitLen() - den.BitLen()
	num, den = scaled(num, den, -power)
	if num.Cmp(den) < 0 {
		return power - 1
	}
	return power
}

// scaled answers two numbers whose quotient is that of num and den times 2 to
// the power places.
func scaled(num, den *big.Int, places int) (*big.Int, *big.Int) {
	if places < 0 {
		return num, shifted(den, -places)
	}
	return shifted(num, places), den
}

// toHalf wants the rest of a division by den.
func toHalf(rest, den *big.Int) int {
	if rest.Sign() == 0 {
		return none
	}
	return half + shifted(rest, 1).Cmp(den)
}
