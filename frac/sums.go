package frac

import (
	"tracery/api"
	"tracery/whole"
)

// Neg answers the opposite.
func Neg(x api.Frac) (api.Frac, api.Errno) {
	if !May(x) {
		return api.Frac{}, api.ErrArg
	}
	return opposite(x), api.OK
}

// Abs answers the magnitude.
func Abs(x api.Frac) (api.Frac, api.Errno) {
	if !May(x) {
		return api.Frac{}, api.ErrArg
	}
	x.Num.Neg = false
	return x, api.OK
}

// Add answers the sum.
func Add(x, y api.Frac) (api.Frac, api.Errno) {
	return reckoned(func() (num, den api.Whole, e api.Errno) {
		num, e = whole.Add(times(x.Num, y.Den), times(y.Num, x.Den))
		return num, times(x.Den, y.Den), e
	}, x, y)
}

// Sub answers x less y.
func Sub(x, y api.Frac) (api.Frac, api.Errno) {
	return reckoned(func() (num, den api.Whole, e api.Errno) {
		num, e = whole.Sub(times(x.Num, y.Den), times(y.Num, x.Den))
		return num, times(x.Den, y.Den), e
	}, x, y)
}

// Mul answers the product.
func Mul(x, y api.Frac) (api.Frac, api.Errno) {
	return reckoned(func() (num, den api.Whole, e api.Errno) {
		return times(x.Num, y.Num), times(x.Den, y.Den), api.OK
	}, x, y)
}

// Div answers x over y.
func Div(x, y api.Frac) (api.Frac, api.Errno) {
	return reckoned(func() (num, den api.Whole, e api.Errno) {
		if y.Num == zero() {
			return zero(), zero(), api.ErrZero
		}
		return times(x.Num, y.Den), times(x.Den, y.Num), api.OK
	}, x, y)
}

// Sqrt answers the root of a square.
func Sqrt(x api.Frac) (api.Frac, api.Errno) {
	return reckoned(func() (num, den api.Whole, e api.Errno) {
		// In lowest terms a square's two numbers are squares each.
		num, above := whole.Square(x.Num)
		den, below := whole.Square(x.Den)
		if !above || !below {
			return zero(), zero(), api.ErrNone
		}
		return num, den, api.OK
	}, x)
}

// reckoned answers the fraction of the two numbers that a formula makes of l.
// The formula is asked what else goes wrong only where all of l may be, and
// its errors stand ahead of a length that is refused.
func reckoned(formula func() (num, den api.Whole, e api.Errno), l ...api.Frac) (api.Frac, api.Errno) {
	for _, x := range l {
		if !May(x) {
			return api.Frac{}, api.ErrArg
		}
	}
	num, den, e := formula()
	if e != api.OK {
		return api.Frac{}, e
	}
	return lowest(num, den)
}

// times is for two numbers of fractions that may be: their product, and a sum
// of such products, is far from being refused.
func times(a, b api.Whole) api.Whole {
	product, _ := whole.Mul(a, b)
	return product
}

// opposite is for fractions that may be.
func opposite(x api.Frac) api.Frac {
	x.Num, _ = whole.Neg(x.Num)
	return x
}
