package meet

import (
	"math/big"

	"tracery/api"
	"tracery/frac"
)

// Mix answers the mix of two circles by two fractions.
func Mix(c, d api.Circle, s, t api.Frac) (api.Circle, api.Errno) {
	l, e := taken(c, d)
	if e != api.OK || !frac.May(s) || !frac.May(t) {
		return api.Circle{}, api.ErrArg
	}
	f, g, by := l[0], l[1], wholes(s, t)
	// Each form is its circle times its unit: times the other's both are alike.
	return mixed(f, g, times(by[0], g.unit()), times(by[1], f.unit())).made()
}

// Axis answers the mix of two circles that is a line.
func Axis(c, d api.Circle) (api.Circle, api.Errno) {
	l, e := taken(c, d)
	if e != api.OK {
		return api.Circle{}, e
	}
	f, g := l[0], l[1]
	// Of two lines, and of two with one centre, this is no circle.
	return mixed(f, g, opposite(g[0].re), f[0].re).made()
}

// Over answers the circle to which d goes, if all is turned over c.
func Over(c, d api.Circle) (api.Circle, api.Errno) {
	l, e := taken(c, d)
	if e != api.OK {
		return api.Circle{}, e
	}
	f, g := l[0], l[1]
	return mixed(g, f, f.power(), opposite(f.twice(g))).made()
}

func mixed(f, g form, s, t *big.Int) form { return f.scaled(s).plus(g.scaled(t)) }
