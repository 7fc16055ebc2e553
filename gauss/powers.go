package gauss

import "tracery/api"

// Pow answers z to the power n.
func Pow(z api.Gauss, n int) (api.Gauss, api.Errno) {
	switch {
	case !May(z), n < -api.MaxPow, n > api.MaxPow:
		return api.Gauss{}, api.ErrArg
	case n < 0 && Zero(z):
		return api.Gauss{}, api.ErrZero
	}
	factor, out := wideOf(z), wideOf(Int(1, 0))
	if n < 0 {
		factor = factor.inverse()
		n *= -1
	}
	for n > 0 {
		if n&1 == 1 {
			out = out.times(factor)
		}
		// The square behind the last bit would be the longest of all.
		if n >>= 1; n > 0 {
			factor = factor.times(factor)
		}
	}
	return out.told(part)
}

// Sqrt answers the root of a square.
func Sqrt(z api.Gauss) (api.Gauss, api.Errno) {
	if !May(z) {
		return api.Gauss{}, api.ErrArg
	}
	// A root's magnitude, squared, is z's: with it, r, the root's parts are
	// the roots of (r + re) / 2 and of (r - re) / 2. All are made whole by den.
	w := wideOf(z)
	twice := plus(w.den, w.den)
	size, whole := root(plus(times(w.re, w.re), times(w.im, w.im)))
	re, wholeRe := root(times(twice, plus(size, w.re)))
	im, wholeIm := root(times(twice, minus(size, w.re)))
	if !whole || !wholeRe || !wholeIm {
		return api.Gauss{}, api.ErrNone
	}
	if w.im.Sign() < 0 {
		im.Neg(im)
	}
	return wide{re: re, im: im, den: twice}.told(part)
}

// Sum answers the sum of all.
func Sum(l ...api.Gauss) (api.Gauss, api.Errno) { return together(l, Int(0, 0), wide.plus) }

// Product answers the product of all.
func Product(l ...api.Gauss) (api.Gauss, api.Errno) { return together(l, Int(1, 0), wide.times) }

// far is how many bytes a list's numbers have in all, from where on it is worth
// while to guess first.
const far = 4 * api.MaxWide

// together answers what a step from two numbers to one makes of a list, and
// none of no list.
func together(l []api.Gauss, none api.Gauss, does step) (api.Gauss, api.Errno) {
	switch {
	case !allMay(l...):
		return api.Gauss{}, api.ErrArg
	case len(l) > api.MaxList:
		return api.Gauss{}, api.ErrLong
	case len(l) == 0:
		return none, api.OK
	}
	if lengthOf(l) > far {
		// What is too long is nearly always found out so, and far sooner.
		rests := folded(l, func(z, w wide) wide { return does(z, w).rest() })
		if _, e := rests.told(guess); e != api.OK {
			return api.Gauss{}, e
		}
	}
	return folded(l, func(z, w wide) wide { return does(z, w).lowered() }).told(part)
}

func lengthOf(l []api.Gauss) int {
	sum := 0
	for _, z := range l {
		sum += len(z.Re.Num.Mag) + len(z.Re.Den.Mag)
		sum += len(z.Im.Num.Mag) + len(z.Im.Den.Mag)
	}
	return sum
}

// folded goes by halves, so that long numbers meet long ones: one behind the
// other they would cost far more. The list has at least one number.
func folded(l []api.Gauss, does step) wide {
	if len(l) == 1 {
		return wideOf(l[0])
	}
	half := len(l) / 2
	return does(folded(l[:half], does), folded(l[half:], does))
}
