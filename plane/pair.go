package plane

import (
	"tracery/api"
	"tracery/frac"
)

// pair is a point by its two coordinates, the one over the other one, infinity
// if that is 0. Both times any number but 0 stand for the same point.
type pair [2]long

// pairOf is for numbers that may be. The second coordinate is above 0.
func pairOf(z api.Gauss) pair {
	l := wholes(z.Re, z.Im, frac.Int(1))
	return pair{{re: l[0], im: l[1]}, flat(l[2])}
}

// light answers the form of the circle about the point without a radius. Its
// power is 0.
func (p pair) light() form {
	return form{a: p[1].norm(), b: p[0].conj().times(p[1]).neg(), c: p[0].norm()}
}

// told is for numbers.
func (p pair) told() (api.Gauss, api.Errno) {
	l, e := told(p[1], p[0])
	if e != api.OK {
		return api.Gauss{}, e
	}
	return l[0], api.OK
}

// matrix is a map on its way. All four numbers times any number but 0 stand for
// the same map.
type matrix struct {
	a, b, c, d long
	turns      bool
}

// matrixOf is for maps that may be.
func matrixOf(m api.Mob) matrix {
	l := wholes(m.A.Re, m.A.Im, m.B.Re, m.B.Im, m.C.Re, m.C.Im, m.D.Re, m.D.Im)
	return matrix{
		a: long{re: l[0], im: l[1]}, b: long{re: l[2], im: l[3]},
		c: long{re: l[4], im: l[5]}, d: long{re: l[6], im: l[7]},
		turns: m.Turns,
	}
}

func (m matrix) image(p pair) pair {
	z, w := p[0], p[1]
	if m.turns {
		z, w = z.conj(), w.conj()
	}
	return pair{m.a.times(z).plus(m.b.times(w)), m.c.times(z).plus(m.d.times(w))}
}

func (m matrix) told() (api.Mob, api.Errno) {
	unit := m.c // what a map's one form has as 1
	if unit.zero() {
		unit = m.d
	}
	l, e := told(unit, m.a, m.b, m.c, m.d)
	if e != api.OK {
		return api.Mob{}, e
	}
	return api.Mob{A: l[0], B: l[1], C: l[2], D: l[3], Turns: m.turns}, api.OK
}
