package frac

import (
	"tracery/api"
	"tracery/whole"
)

// Floor answers the greatest whole number that is not above x.
func Floor(x api.Frac) (api.Whole, api.Errno) {
	// The first quotient is it; what may not be has none.
	for quotient := range Quotients(x) {
		return quotient, api.OK
	}
	return zero(), api.ErrArg
}

// Nearest answers the nearest whole number, of two the even one.
func Nearest(x api.Frac) (api.Whole, api.Errno) {
	if !May(x) {
		return zero(), api.ErrArg
	}
	// x and a half is rounded down; where nothing is left of that, x lies
	// midway, and the upper one of both has been taken.
	two := whole.Of(2)
	num, _ := whole.Add(times(x.Num, two), x.Den)
	near, rest, _ := whole.Div(num, times(x.Den, two))
	if odd, _ := whole.Bit(near, 0); odd == 1 && rest == zero() {
		return whole.Sub(near, one())
	}
	return near, api.OK
}

// Simplest answers the simplest fraction from x to y.
func Simplest(x, y api.Frac) (api.Frac, api.Errno) {
	order, e := Cmp(x, y)
	switch {
	case e != api.OK, order > 0:
		return api.Frac{}, api.ErrArg
	case Sign(x) > 0:
		return simplest(x, y)
	case Sign(y) < 0:
		mirrored, e := simplest(opposite(y), opposite(x))
		return opposite(mirrored), e
	}
	return Int(0), api.OK
}

// simplest wants both above 0, and x not above y. It goes over the quotients
// that both have alike; behind these the least whole number that is not below
// the lesser rest is not above the other one. So the answer is either x or y,
// or it is shorter than both.
func simplest(x, y api.Frac) (api.Frac, api.Errno) {
	var alike []api.Whole
	nextOfX, nextOfY := steps(x), steps(y)
	for {
		a, endsX := nextOfX()
		b, endsY := nextOfY()
		order, _ := whole.Cmp(a, b)
		switch {
		case order <= 0 && endsX:
			return x, api.OK
		case order >= 0 && endsY:
			return y, api.OK
		case order < 0:
			return folded(append(alike, after(a)))
		case order > 0:
			return folded(append(alike, after(b)))
		}
		alike = append(alike, a)
	}
}

// after is for quotients, which have room for one more.
func after(a api.Whole) api.Whole {
	next, _ := whole.Add(a, one())
	return next
}
