package invert

import (
	"math/big"

	"tracery/api"
)

// form is a circle on its way: the points z with a |z|^2 + 2 Re(b z) + c = 0.
// All of it times any real number but 0 stands for the same circle: so whole
// numbers do, and nothing is divided till something is told.
type form struct {
	a *big.Int
	b long
	c *big.Int
}

// formOf is for circles that may be.
func formOf(c api.Circle) form {
	l := wholes(c.A, c.B.Re, c.B.Im, c.C)
	return form{a: l[0], b: long{re: l[1], im: l[2]}, c: l[3]}
}

func (f form) power() *big.Int { return minus(f.b.norm(), times(f.a, f.c)) }

// empty tells that the form stands for no circle.
func (f form) empty() bool { return f.power().Sign() <= 0 }

// twice answers Re(b conj(b')) less half of a c' + a' c, twice: so it is whole.
// It is 0, if two circles cross at right angles.
func (f form) twice(g form) *big.Int {
	crossed := plus(times(f.a, g.c), times(g.a, f.c))
	return minus(double(f.b.dot(g.b)), crossed)
}

// image answers what the turning over f makes of g: what of g is at right angles
// to f stays, and the rest of it, which is f times a number, changes its sign.
func (f form) image(g form) form {
	by, less := f.power(), f.twice(g)
	return form{
		a: minus(times(g.a, by), times(f.a, less)),
		b: g.b.scaled(by).minus(f.b.scaled(less)),
		c: minus(times(g.c, by), times(f.c, less)),
	}
}

// turned answers where the turning over f sends p.
func (f form) turned(p pair) pair {
	z, w := p[0].conj(), p[1].conj()
	return pair{
		f.b.conj().times(z).plus(w.scaled(f.c)).neg(),
		z.scaled(f.a).plus(f.b.times(w)),
	}
}

// across answers the form through p that is at right angles to f and g; it is
// empty, unless there is just one such circle. With F being the matrix whose
// rows are a, conj(b) and b, c, a form's value at p is p* F p, and turned
// answers F p, conjugated, its two numbers changed about and one of them
// negated. What is looked for is i (F p (G p)* - G p (F p)*): with p on both
// sides that comes to 0, and so do its products with F and with G. All of it is
// 0, if G p is a real number times F p, since then whatever goes through p at
// right angles to f crosses g so, too.
func (f form) across(g form, p pair) form {
	q, r := f.turned(p), g.turned(p)
	b := r[0].conj().times(q[1]).minus(q[0].conj().times(r[1]))
	return form{a: double(q[1].area(r[1])), b: b.quarter(), c: double(q[0].area(r[0]))}
}

// told wants a form that stands for a circle. The number that its one form has
// as 1 is found ahead of c.
func (f form) told() (api.Circle, api.Errno) {
	unit := f.b.im
	for _, n := range [2]*big.Int{f.b.re, f.a} {
		if n.Sign() != 0 {
			unit = n
		}
	}
	l, e := told(flat(unit), flat(f.a), f.b, flat(f.c))
	if e != api.OK {
		return api.Circle{}, e
	}
	return api.Circle{A: l[0].Re, B: l[1], C: l[2].Re}, api.OK
}
