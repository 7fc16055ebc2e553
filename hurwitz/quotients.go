package hurwitz

import (
	"iter"
	"slices"

	"tracery/api"
	"tracery/gauss"
)

// Quotients goes over the quotients of z.
func Quotients(z api.Gauss) iter.Seq[api.Gauss] {
	return func(yield func(api.Gauss) bool) {
		if !gauss.May(z) {
			return
		}
		for quotient := range ratioOf(z).quotients() {
			// None of them is too long: part by part z and a convergent are the same, or
			// apart by 1 over the product of their Dens at least.
			a, _ := quotient.told()
			if !yield(a) {
				return
			}
		}
	}
}

// Convergents goes over the quotients of z with the convergents, up to one that
// is too big.
func Convergents(z api.Gauss) iter.Seq[api.Converge] {
	return func(yield func(api.Converge) bool) {
		if !gauss.May(z) {
			return
		}
		next := converging()
	dividing:
		for quotient := range ratioOf(z).quotients() {
			over, under := next(quotient)
			var told [3]api.Gauss
			for k, number := range [3]integer{quotient, over, under} {
				var e api.Errno
				if told[k], e = number.told(); e != api.OK {
					break dividing
				}
			}
			if !yield(api.Converge{A: told[0], P: told[1], Q: told[2]}) {
				break dividing
			}
		}
	}
}

// Make answers the number whose quotients these are.
func Make(quotients ...api.Gauss) (api.Gauss, api.Errno) {
	for _, quotient := range quotients {
		if !Whole(quotient) {
			return api.Gauss{}, api.ErrArg
		}
	}
	switch {
	case len(quotients) == 0:
		return api.Gauss{}, api.ErrArg
	case len(quotients) > api.MaxList:
		return api.Gauss{}, api.ErrLong
	}
	last := len(quotients) - 1
	return folded(integerOf(quotients[last]), quotients[:last])
}

// Lowest answers two whole numbers, z being the first one over the second one,
// that have no common divisor but units.
func Lowest(z api.Gauss) (api.Gauss, api.Gauss, api.Errno) {
	if !gauss.May(z) {
		return api.Gauss{}, api.Gauss{}, api.ErrArg
	}
	// The last convergent is z; and whatever divides both of its numbers divides
	// 1, which two convergents side by side make.
	var over, under integer
	next := converging()
	for quotient := range ratioOf(z).quotients() {
		over, under = next(quotient)
	}
	unit := under.unit()
	return toldBoth(over.times(unit), under.times(unit))
}

// folded reckons from the last quotient on.
func folded(last integer, others []api.Gauss) (api.Gauss, api.Errno) {
	x := ratio{over: last, under: one()}
	for _, quotient := range slices.Backward(others) {
		if x.over.isZero() {
			return api.Gauss{}, api.ErrZero
		}
		x = x.inverse()
		e := x.check()
		if e == api.OK {
			x = x.plus(integerOf(quotient))
			e = x.check()
		}
		if e != api.OK {
			return api.Gauss{}, e
		}
	}
	return x.told()
}
