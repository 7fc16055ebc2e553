package near

import (
	"math"

	"tracery/api"
	"tracery/cplx"
	"tracery/gauss"
)

// Middle tells whether a number is in the middle.
func Middle(z complex128) bool {
	return both(z, func(f float64) bool {
		// Either nought is == 0; of a NaN no comparison holds.
		return f == 0 || math.Abs(f) >= 0x1p-400 && math.Abs(f) <= 0x1p400
	})
}

// Holds tells whether an operation is as near as it must be.
func Holds(op api.NearOp, z, w complex128) (bool, api.Errno) {
	switch {
	case op < api.NearAdd || op > api.NearDiv:
		return false, api.ErrArg
	case !both(z, finite) || !both(w, finite):
		return false, api.ErrFloat
	}
	answer := byFloats()[op-api.NearAdd](z, w)
	// A quotient by 0 has parts that are NaNs, and so is not in the middle.
	if !Middle(z) || !Middle(w) || !Middle(answer) {
		return false, api.ErrNone
	}
	// What comes of numbers in the middle is too short to be refused.
	wanted, _ := byFractions()[op-api.NearAdd](exactComplex(z), exactComplex(w))
	return asNear(exactComplex(answer), wanted, halvings()[op-api.NearAdd]), api.OK
}

type floatStep func(z, w complex128) complex128

type exactStep func(z, w api.Gauss) (api.Gauss, api.Errno)

// These three stand in the order of the operations' numbers.

func byFloats() [4]floatStep { return [4]floatStep{cplx.Add, cplx.Sub, cplx.Mul, cplx.Div} }

func byFractions() [4]exactStep { return [4]exactStep{gauss.Add, gauss.Sub, gauss.Mul, gauss.Div} }

func halvings() [4]int { return [4]int{53, 53, 51, 49} }

// asNear tells whether got is no further from wanted than wanted's magnitude
// halved so many times. 'How near' says no more than that: a product's
// magnitude is the product of magnitudes, and so with quotients.
func asNear(got, wanted api.Gauss, halvings int) bool {
	off, magnitude := apart(got, wanted), apart(gauss.Int(0, 0), wanted)
	off.num = shifted(off.num, 2*halvings) // twice, since both are squares
	return off.atMost(magnitude)
}
