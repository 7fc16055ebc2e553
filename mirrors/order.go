package mirrors

import (
	"math/big"

	"tracery/api"
)

// Order answers how often turning over j and then over k must be done to move
// nothing, 0 if no number does.
func (m *Mirrors) Order(j, k int) (int, api.Errno) {
	if e := m.checkNumbers(j, k); e != api.OK {
		return 0, e
	}
	c, d := m.list[j-1].circle, m.list[k-1].circle
	if c == d {
		return 1, api.OK
	}
	return order(formOf(c), formOf(d)), api.OK
}

// form is a circle's numbers, all times one number that makes them whole.
type form struct {
	a, re, im, c *big.Int
}

// formOf is for circles that may be.
func formOf(c api.Circle) form {
	by := big.NewInt(1)
	for _, x := range [4]api.Frac{c.A, c.B.Re, c.B.Im, c.C} {
		by = times(by, bigOf(x.Den))
	}
	whole := func(x api.Frac) *big.Int { return times(bigOf(x.Num), new(big.Int).Quo(by, bigOf(x.Den))) }
	return form{a: whole(c.A), re: whole(c.B.Re), im: whole(c.B.Im), c: whole(c.C)}
}

// order is for unlike circles, and by their forms, since both turnings together
// may be too big for a map. Their matrix has the trace 2 Re(B conj(B')) - A C' -
// A' C, and as its determinant the product of both powers. The trace squared
// over that tells the order, as in mob: such fractions are 0, 1, 2 and 3 alone.
func order(f, g form) int {
	trace := f.twice(g)
	square := times(trace, trace)
	square.Lsh(square, 2) // as each power stands twice in what it is held against
	powers := times(f.twice(f), g.twice(g))
	for k, n := range [4]int{2, 3, 4, 6} {
		if square.Cmp(times(powers, big.NewInt(int64(k)))) == 0 {
			return n
		}
	}
	return 0
}

// twice is of a form with itself twice the power.
func (f form) twice(g form) *big.Int {
	dot := plus(times(f.re, g.re), times(f.im, g.im))
	crossed := plus(times(f.a, g.c), times(g.a, f.c))
	return new(big.Int).Sub(plus(dot, dot), crossed)
}

func bigOf(a api.Whole) *big.Int {
	n := new(big.Int).SetBytes([]byte(a.Mag))
	if a.Neg {
		n.Neg(n)
	}
	return n
}

func plus(a, b *big.Int) *big.Int { return new(big.Int).Add(a, b) }

func times(a, b *big.Int) *big.Int { return new(big.Int).Mul(a, b) }
