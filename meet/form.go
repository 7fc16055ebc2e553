package meet

import (
	"math/big"

	"tracery/api"
)

// form is a circle on its way, by its three numbers A, B, C, of which the first
// and the last one are real. All of it times any real number but 0 stands for
// the same circle: so whole numbers do, and nothing is divided till it is told.
type form [3]long

// formOf is for circles that may be. It takes them times a number above 0,
// which is what unit answers of the form.
func formOf(c api.Circle) form {
	l := wholes(c.A, c.B.Re, c.B.Im, c.C)
	return form{flat(l[0]), {re: l[1], im: l[2]}, flat(l[3])}
}

// parts are the four numbers that tell a form.
func (f form) parts() [4]*big.Int { return [4]*big.Int{f[0].re, f[1].re, f[1].im, f[2].re} }

// unit is the number that a circle's one form has as 1. It wants a form that
// stands for a circle: so it is found ahead of C.
func (f form) unit() *big.Int {
	for _, n := range [2]*big.Int{f[0].re, f[1].re} {
		if n.Sign() != 0 {
			return n
		}
	}
	return f[1].im
}

func (f form) power() *big.Int { return minus(f[1].norm(), times(f[0].re, f[2].re)) }

// twice answers the product of two forms, twice: so it is whole.
func (f form) twice(g form) *big.Int {
	crossed := plus(times(f[0].re, g[2].re), times(g[0].re, f[2].re))
	return minus(double(f[1].dot(g[1])), crossed)
}

// powers answers the product of both powers, as it is held against the square
// of what twice answers.
func (f form) powers(g form) *big.Int { return double(double(times(f.power(), g.power()))) }

// depth is above 0, if two circles cross, 0, if they touch or are the same,
// below 0, if they are apart.
func (f form) depth(g form) *big.Int { return minus(f.powers(g), square(f.twice(g))) }

func (f form) scaled(by *big.Int) form {
	for k, z := range f {
		f[k] = z.scaled(by)
	}
	return f
}

func (f form) plus(g form) form {
	for k, z := range g {
		f[k] = f[k].plus(z)
	}
	return f
}

// made answers the circle, if the form stands for one.
func (f form) made() (api.Circle, api.Errno) {
	if f.power().Sign() <= 0 {
		return api.Circle{}, api.ErrNone
	}
	unit, parts := f.unit(), [4]api.Frac{}
	for k, n := range f.parts() {
		part, e := lowest(n, unit)
		if e != api.OK {
			return api.Circle{}, e
		}
		parts[k] = part
	}
	return api.Circle{A: parts[0], B: api.Gauss{Re: parts[1], Im: parts[2]}, C: parts[3]}, api.OK
}
