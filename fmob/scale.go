package fmob

import (
	"math"

	"tracery/api"
	"tracery/cplx"
)

// Scale brings the greatest part to a magnitude from 1 up to below 2.
func Scale(f api.FMob) (api.FMob, api.Errno) {
	l := numbersOf(f)
	for _, z := range l {
		if !cplx.Finite(z) {
			return api.FMob{}, api.ErrFloat
		}
	}
	top := l.greatest()
	if top == 0 {
		return api.FMob{}, api.ErrNone
	}
	return l.each(shifting(-math.Ilogb(top))).told(f.Turns), api.OK
}

// greatest is for finite numbers.
func (l numbers) greatest() float64 {
	var top float64
	for _, x := range l.parts() {
		top = max(top, math.Abs(x))
	}
	return top
}

// shifting answers what multiplies parts by 2 to the power n. That power need be
// no float: Ldexp goes by the exponents, and rounds what gets too small once.
func shifting(n int) func(z complex128) complex128 {
	return func(z complex128) complex128 {
		return complex(math.Ldexp(real(z), n), math.Ldexp(imag(z), n))
	}
}
