package frac

import (
	"iter"
	"slices"

	"tracery/api"
	"tracery/whole"
)

// Quotients goes over the quotients of x.
func Quotients(x api.Frac) iter.Seq[api.Whole] {
	return func(yield func(api.Whole) bool) {
		if !May(x) {
			return
		}
		next := steps(x)
		for {
			quotient, ends := next()
			if !yield(quotient) || ends {
				return
			}
		}
	}
}

// Make answers the fraction whose quotients these are.
func Make(quotients ...api.Whole) (api.Frac, api.Errno) {
	for _, quotient := range quotients {
		if whole.Check(quotient) != api.OK {
			return api.Frac{}, api.ErrArg
		}
	}
	switch {
	case len(quotients) == 0:
		return api.Frac{}, api.ErrArg
	case len(quotients) > api.MaxList:
		return api.Frac{}, api.ErrLong
	}
	return folded(quotients)
}

// steps answers what tells the next quotient of a fraction that may be, and
// whether it is the last one. Behind that it may not be asked again.
func steps(x api.Frac) func() (quotient api.Whole, ends bool) {
	num, den := x.Num, x.Den
	return func() (api.Whole, bool) {
		quotient, rest, _ := whole.Div(num, den)
		num, den = den, rest
		return quotient, rest == zero()
	}
}

// folded reckons from the last quotient on, which stands alone as if 1 over 0
// stood behind it. Lowest terms need no asking: what divides both of the new
// fraction's numbers divides both of the last one's.
func folded(quotients []api.Whole) (api.Frac, api.Errno) {
	x := api.Frac{Num: one()}
	for _, quotient := range slices.Backward(quotients) {
		if x.Num == zero() {
			return api.Frac{}, api.ErrZero
		}
		sum, e := whole.Mul(quotient, x.Num)
		if e == api.OK {
			sum, e = whole.Add(sum, x.Den)
		}
		if e == api.OK {
			x, e = fitting(upright(sum, x.Num))
		}
		if e != api.OK {
			return api.Frac{}, e
		}
	}
	return x, api.OK
}

// upright brings the sign to where it stands in a fraction.
func upright(num, den api.Whole) api.Frac {
	if den.Neg {
		num, _ = whole.Neg(num)
		den, _ = whole.Neg(den)
	}
	return api.Frac{Num: num, Den: den}
}
