package plane

import (
	"math/big"

	"tracery/api"
)

// form is a circle on its way: the points z with a |z|^2 + 2 Re(b z) + c = 0.
// All of it times any real number but 0 stands for the same circle: so whole
// numbers do, and nothing is divided till something is told.
type form struct {
	a *big.Int
	b long
	c *big.Int
}

// formOf is for circles that may be.
func formOf(c api.Circle) form {
	l := wholes(c.A, c.B.Re, c.B.Im, c.C)
	return form{a: l[0], b: long{re: l[1], im: l[2]}, c: l[3]}
}

func (f form) power() *big.Int { return minus(f.b.norm(), times(f.a, f.c)) }

// twice answers Re(b conj(b')) less half of a c' + a' c, twice: so it is whole.
// It is 0 of what is upright on each other. Of a light it is what f's value at
// the point is, its sign turned.
func (f form) twice(g form) *big.Int {
	return minus(double(f.b.dot(g.b)), plus(times(f.a, g.c), times(g.a, f.c)))
}

// share is a form times a number.
type share struct {
	of form
	by *big.Int
}

// mixed answers the sum of all shares.
func mixed(l ...share) form {
	sum := form{a: new(big.Int), b: is(0, 0), c: new(big.Int)}
	for _, s := range l {
		sum = form{
			a: plus(sum.a, times(s.of.a, s.by)),
			b: sum.b.plus(s.of.b.scaled(s.by)),
			c: plus(sum.c, times(s.of.c, s.by)),
		}
	}
	return sum
}

// centre is for forms whose a is not 0.
func (f form) centre() pair { return pair{f.b.conj().neg(), flat(f.a)} }

// told wants a form that stands for a circle. The number that its one form has
// as 1 is found ahead of c.
func (f form) told() (api.Circle, api.Errno) {
	unit := f.b.im
	for _, n := range [2]*big.Int{f.b.re, f.a} {
		if n.Sign() != 0 {
			unit = n
		}
	}
	l, e := told(flat(unit), flat(f.a), f.b, flat(f.c))
	if e != api.OK {
		return api.Circle{}, e
	}
	return api.Circle{A: l[0].Re, B: l[1], C: l[2].Re}, api.OK
}
