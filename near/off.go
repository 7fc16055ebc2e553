package near

import (
	"math/big"

	"tracery/api"
	"tracery/frac"
	"tracery/gauss"
)

// Off tells the square of a distance.
func Off(z complex128, w api.Gauss) (api.Frac, api.Errno) {
	switch {
	case !gauss.May(w):
		return api.Frac{}, api.ErrArg
	case !both(z, finite):
		return api.Frac{}, api.ErrFloat
	}
	return apart(exactComplex(z), w).lowest()
}

// Within tells whether a distance is at most a bound.
func Within(z complex128, w api.Gauss, bound api.Frac) (bool, api.Errno) {
	switch {
	case !gauss.May(w), !frac.May(bound), frac.Sign(bound) < 0:
		return false, api.ErrArg
	case !both(z, finite):
		return false, api.ErrFloat
	}
	return apart(exactComplex(z), w).atMost(wideOf(bound).square()), api.OK
}

// wide is a fraction on its way: den is above 0. It has any length, and need
// not be in lowest terms.
type wide struct {
	num, den *big.Int
}

// wideOf is for fractions that may be.
func wideOf(x api.Frac) wide {
	num := magnitude(x.Num)
	if x.Num.Neg {
		num.Neg(num)
	}
	return wide{num: num, den: magnitude(x.Den)}
}

// apart answers the square of the distance of two numbers that may be.
func apart(z, w api.Gauss) wide {
	re := wideOf(z.Re).minus(wideOf(w.Re))
	im := wideOf(z.Im).minus(wideOf(w.Im))
	return re.square().plus(im.square())
}

func (x wide) plus(y wide) wide {
	num := new(big.Int).Add(times(x.num, y.den), times(y.num, x.den))
	return wide{num: num, den: times(x.den, y.den)}
}

func (x wide) minus(y wide) wide {
	return x.plus(wide{num: new(big.Int).Neg(y.num), den: y.den})
}

func (x wide) square() wide { return wide{num: times(x.num, x.num), den: times(x.den, x.den)} }

func (x wide) atMost(y wide) bool { return times(x.num, y.den).Cmp(times(y.num, x.den)) <= 0 }

// lowest is for what apart answers: not below 0, and, whole number by whole
// number, never too long to be handed on.
func (x wide) lowest() (api.Frac, api.Errno) { return frac.Of(wholeOf(x.num), wholeOf(x.den)) }
