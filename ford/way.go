package ford

import (
	"iter"
	"slices"

	"tracery/api"
	"tracery/frac"
	"tracery/whole"
)

// Way goes over the fractions on the way to x, each with whether x is above it.
func Way(x api.Frac) iter.Seq2[bool, api.Frac] {
	return func(yield func(bool, api.Frac) bool) {
		if frac.Sign(x) <= 0 {
			return
		}
		next := towards(x)
	way:
		for range api.MaxList {
			order, mid := next()
			switch {
			case !yield(order > 0, mid), order == 0:
				break way
			}
		}
	}
}

// Steps answers how many fractions there are on the whole way to x.
func Steps(x api.Frac) (api.Whole, api.Errno) {
	if frac.Sign(x) <= 0 {
		return api.Whole{}, api.ErrArg
	}
	return whole.Sum(slices.Collect(frac.Quotients(x))...)
}

// end is one of the two between which a way goes on: a fraction as it stands,
// or 1/0, and how far x is from it: the magnitude of their cross.
type end struct {
	num, den, off api.Whole
}

// towards answers what tells the way's fractions, which x is above, is, or is
// below. Behind x itself it may not be asked again. No fraction is held against
// x: what x is off what lies between two is what it is off the first one, less
// what it is off the second.
func towards(x api.Frac) func() (order int, mid api.Frac) {
	low, high := end{den: one(), off: x.Num}, end{num: one(), off: x.Den}
	return func() (int, api.Frac) {
		mid := end{num: plus(low.num, high.num), den: plus(low.den, high.den)}
		order := compare(low.off, high.off)
		if order < 0 {
			mid.off = minus(high.off, low.off)
			high = mid
		} else {
			mid.off = minus(low.off, high.off)
			low = mid
		}
		return order, api.Frac{Num: mid.num, Den: mid.den}
	}
}
