package circ

import (
	"tracery/api"
	"tracery/gauss"
	"tracery/sphere"
)

// Centre answers the centre, of a line infinity.
func Centre(c api.Circle) (api.Point, api.Errno) {
	switch {
	case Check(c) != api.OK:
		return api.Point{}, api.ErrArg
	case isLine(c):
		return sphere.Infinity(), api.OK
	}
	conj, _ := gauss.Conj(c.B) // a circle that may be has no number that is refused
	centre, e := gauss.Neg(conj)
	return api.Point{Z: centre}, e
}

// Square answers the radius squared.
func Square(c api.Circle) (api.Frac, api.Errno) {
	switch {
	case Check(c) != api.OK:
		return api.Frac{}, api.ErrArg
	case isLine(c):
		return api.Frac{}, api.ErrNone
	}
	return Power(c) // since A is 1
}

// Power answers |B|^2 - A C.
func Power(c api.Circle) (api.Frac, api.Errno) {
	f, e := taken(c)
	if e != api.OK {
		return api.Frac{}, e
	}
	return lowest(f.power(), times(f.unit(), f.unit()))
}
