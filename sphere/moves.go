package sphere

import (
	"tracery/api"
	"tracery/gauss"
)

// Neg answers the opposite.
func Neg(p api.Point) (api.Point, api.Errno) { return staying(p, gauss.Neg) }

// Conj answers the conjugate.
func Conj(p api.Point) (api.Point, api.Errno) { return staying(p, gauss.Conj) }

// Inverse answers 1 / z.
func Inverse(p api.Point) (api.Point, api.Errno) {
	return swapping(p, func(z api.Gauss) (api.Gauss, api.Errno) {
		return gauss.Div(gauss.Int(1, 0), z)
	})
}

// Across answers the point at the other end of the ball.
func Across(p api.Point) (api.Point, api.Errno) {
	return swapping(p, func(z api.Gauss) (api.Gauss, api.Errno) {
		turned, e := gauss.Conj(z)
		if e != api.OK {
			return api.Gauss{}, e
		}
		return gauss.Div(gauss.Int(-1, 0), turned)
	})
}

// step is what is done to a number.
type step func(z api.Gauss) (api.Gauss, api.Errno)

// staying does a step that leaves infinity where it is.
func staying(p api.Point, does step) (api.Point, api.Errno) {
	if p == Infinity() {
		return p, api.OK
	}
	return moved(p, does)
}

// swapping does a step by which 0 and infinity change places.
func swapping(p api.Point, does step) (api.Point, api.Errno) {
	switch p {
	case zero():
		return Infinity(), api.OK
	case Infinity():
		return zero(), api.OK
	}
	return moved(p, does)
}

// moved does a step that may be done to every number that comes here.
func moved(p api.Point, does step) (api.Point, api.Errno) {
	if !May(p) {
		return api.Point{}, api.ErrArg
	}
	z, e := does(p.Z)
	if e != api.OK {
		return api.Point{}, e
	}
	return api.Point{Z: z}, api.OK
}
