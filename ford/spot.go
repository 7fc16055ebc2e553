package ford

import (
	"tracery/api"
	"tracery/frac"
	"tracery/whole"
)

// The two sides of a fraction: what r q - p s is of p/q and its neighbour r/s.
const (
	below int64 = -1
	above int64 = 1
)

// spot is a fraction with a Den of at most MaxFord, parted into a whole number
// and what is left, from 0 to 1: just the first one can be long.
type spot struct {
	floor     api.Whole
	rest, den int64
}

// spotOf wants x to have a Den of at most n; what may not be, or is refused, is
// no spot.
func spotOf(x api.Frac, n int) (spot, bool) {
	den, ok := whole.Small(x.Den)
	if !frac.May(x) || !inReach(n) || !ok || den > int64(n) {
		return spot{}, false
	}
	floor, rest, _ := whole.Div(x.Num, x.Den)
	short, _ := whole.Small(rest)
	return spot{floor: floor, rest: short, den: den}, true
}

// convergent answers the last one of those fractions that the first quotients
// of x make, one more each time, that has a Den of at most n. It is one of the
// two with so small a Den between which x lies. x has a greater Den.
func convergent(x api.Frac, n int64) spot {
	floor, rest, _ := whole.Div(x.Num, x.Den)
	last, now := pair{num: 1, den: 0}, pair{num: 0, den: 1}
	for quotient := range frac.Quotients(api.Frac{Num: x.Den, Den: rest}) {
		count, ok := whole.Small(quotient)
		if !ok || count > (n-last.den)/now.den {
			break
		}
		last, now = now, pair{num: count*now.num + last.num, den: count*now.den + last.den}
	}
	return spot{floor: floor, rest: now.num, den: now.den}
}

// told answers the fraction, if it is not too long.
func (x spot) told() (api.Frac, api.Errno) { return x.beyond(x.rest, x.den) }

// neighbour answers the one on that side with that Den, which is one of those
// that such neighbours have.
func (x spot) neighbour(side, den int64) (api.Frac, api.Errno) {
	return x.beyond((x.rest*den+side)/x.den, den)
}

// beyond answers the fraction that is so far above the whole number; num and
// den are in lowest terms, and so is the fraction then. No den is too long.
func (x spot) beyond(num, den int64) (api.Frac, api.Errno) {
	under := whole.Of(den)
	over := plus(times(x.floor, under), whole.Of(num))
	if len(over.Mag) > api.MaxWhole {
		return api.Frac{}, api.ErrBig
	}
	return api.Frac{Num: over, Den: under}, api.OK
}

// first answers the least Den, from 1 to that of x, that a neighbour on that
// side has. The others are greater by that of x, each.
func (x spot) first(side int64) int64 {
	den := -side * inverse(x.rest, x.den) % x.den
	if den < 1 {
		den += x.den
	}
	return den
}

// last answers the greatest such Den that is at most n; that of x is, too.
func (x spot) last(side, n int64) int64 { return n - (n-x.first(side))%x.den }

// inverse answers a number that, times a, leaves 1 when it is divided by q; a is
// not below 0, and nothing but 1 divides both.
func inverse(a, q int64) int64 {
	// Times a both counts leave, divided by q, what both rests do.
	rest, next := q, a
	count, other := int64(0), int64(1)
	for next > 0 {
		by := rest / next
		rest, next = next, rest-by*next
		count, other = other, count-by*other
	}
	return count
}
