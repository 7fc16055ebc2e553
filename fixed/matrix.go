package fixed

import "tracery/api"

// matrix is a map that does not turn on its way, by A, B, C and D. All of them
// times any number but 0 stand for the same map: so whole numbers do, and
// nothing is divided till something is told.
type matrix [4]long

// matrixOf is for maps that may be; of one that turns it is what is done to the
// conjugate.
func matrixOf(m api.Mob) matrix {
	l := wholes(m.A, m.B, m.C, m.D)
	return matrix{l[0], l[1], l[2], l[3]}
}

func (m matrix) trace() long { return m[0].plus(m[3]) }

func (m matrix) det() long { return m[0].times(m[3]).minus(m[1].times(m[2])) }

func (m matrix) conj() matrix {
	for k, z := range m {
		m[k] = z.conj()
	}
	return m
}

func (m matrix) behind(n matrix) matrix {
	place := func(a, b, c, d long) long { return a.times(b).plus(c.times(d)) }
	return matrix{
		place(m[0], n[0], m[1], n[2]), place(m[0], n[1], m[1], n[3]),
		place(m[2], n[0], m[3], n[2]), place(m[2], n[1], m[3], n[3]),
	}
}

func (m matrix) still() bool { return m[1].zero() && m[2].zero() && m[0].same(m[3]) }

// longest is the greatest order. In some place a map that comes back is z to
// k z, k being a root of 1 for which k + 1 / k, the sign less 2, is a fraction:
// so k is one of the first, second, third, fourth or sixth ones.
const longest = 6

// order is as Order tells it.
func (m matrix) order() int {
	if m.still() {
		return 1
	}
	// By Cayley and Hamilton the square of m is its trace times m less its det.
	// So each power is a number times m, less another one, and moves nothing
	// just if the first one is 0. Of the powers 0 and 1 that is 0 and 1.
	trace, det, order := m.trace(), m.det(), 0
	last, factor := short(0), short(1)
powers:
	for n := 2; n <= longest; n++ {
		last, factor = factor, trace.times(factor).minus(det.times(last))
		if factor.zero() {
			order = n
			break powers
		}
	}
	return order
}

// staying answers the numbers among the points that stay, in order, of a map
// that moves something.
func (m matrix) staying() ([]api.Gauss, api.Errno) {
	apart := m[0].minus(m[3])
	switch {
	case m[2].zero() && apart.zero():
		return nil, api.OK
	case m[2].zero():
		return told(apart.neg(), m[1])
	}
	root, whole := apart.times(apart).plus(m[1].times(m[2]).times(short(4))).root()
	if !whole {
		return nil, api.ErrNone
	}
	both := [2]long{apart.plus(root), apart.minus(root)}
	if root.zero() {
		return told(m[2].times(short(2)), both[0])
	}
	return told(m[2].times(short(2)), both[:]...)
}
