package ford

import (
	"iter"

	"tracery/api"
	"tracery/frac"
	"tracery/whole"
)

// Row goes over the row of n.
func Row(n int) iter.Seq[api.Frac] {
	return func(yield func(api.Frac) bool) {
		if !inReach(n) {
			return
		}
		next := rising(int64(n))
		for {
			x := next()
			if !yield(api.Frac{Num: whole.Of(x.num), Den: whole.Of(x.den)}) || x == (pair{num: 1, den: 1}) {
				return
			}
		}
	}
}

// Next answers the least fraction above x with a Den of at most n.
func Next(x api.Frac, n int) (api.Frac, api.Errno) { return beside(x, n, above) }

// Last answers the greatest fraction below x with a Den of at most n.
func Last(x api.Frac, n int) (api.Frac, api.Errno) { return beside(x, n, below) }

// Best answers the fraction with a Den of at most n that is nearest to x.
func Best(x api.Frac, n int) (api.Frac, api.Errno) {
	switch {
	case !frac.May(x), !inReach(n):
		return api.Frac{}, api.ErrArg
	case compare(x.Den, whole.Of(int64(n))) <= 0:
		return x, api.OK
	}
	// Neither of the two about x is refused: both have a lesser Den than x, and no
	// greater a magnitude of Num.
	at := convergent(x, int64(n))
	near, _ := at.told()
	off := cross(x, near)
	side := int64(whole.Sign(off))
	other, _ := at.neighbour(side, at.last(side, int64(n)))
	// They are neighbours: so half of the way between them is 1 over twice the
	// product of their Dens.
	switch compare(times(double(magnitude(off)), other.Den), x.Den) {
	case -1:
		return near, api.OK
	case 1:
		return other, api.OK
	}
	// Whatever else lies between them has a greater Den.
	if side == above {
		return frac.Simplest(near, other)
	}
	return frac.Simplest(other, near)
}

// Around goes over the neighbours of x with a Den of at most n.
func Around(x api.Frac, n int) iter.Seq[api.Frac] {
	return func(yield func(api.Frac) bool) {
		at, ok := spotOf(x, n)
		if !ok {
			return
		}
		// On either side those with a greater Den are nearer to x.
		goesOn := func(side, den int64) bool {
			y, e := at.neighbour(side, den)
			return e != api.OK || yield(y)
		}
		for den := at.first(below); den <= int64(n); den += at.den {
			if !goesOn(below, den) {
				return
			}
		}
		for den := at.last(above, int64(n)); den > 0; den -= at.den {
			if !goesOn(above, den) {
				return
			}
		}
	}
}

func inReach(n int) bool { return 1 <= n && n <= api.MaxFord }

// pair is a fraction of short numbers.
type pair struct {
	num, den int64
}

// rising answers what tells the fractions of the row of n, from 0 on. Behind 1
// it would go on without end.
func rising(n int64) func() pair {
	last, next := pair{num: 0, den: 1}, pair{num: 1, den: n}
	return func() pair {
		x := last
		// All neighbours of the next one that are above it are so many times its
		// numbers, less the last one's: the one with the greatest Den is nearest.
		count := (n + last.den) / next.den
		last, next = next, pair{num: count*next.num - last.num, den: count*next.den - last.den}
		return x
	}
}

// beside answers the fraction with a Den of at most n that is nearest to x on
// one side of it: it is a neighbour.
func beside(x api.Frac, n int, side int64) (api.Frac, api.Errno) {
	at, ok := spotOf(x, n)
	if !ok {
		return api.Frac{}, api.ErrArg
	}
	return at.neighbour(side, at.last(side, int64(n)))
}
