package fcirc

import (
	"iter"
	"math"

	"tracery/api"
	"tracery/cplx"
)

// Centre tells the centre.
func Centre(f api.FCircle) (complex128, api.Errno) {
	switch {
	case !cplx.Finite(cplx.Of(f.A, 0)), !cplx.Finite(f.B):
		return 0, api.ErrFloat
	case f.A == 0:
		return 0, api.ErrZero
	}
	return centre(f), api.OK
}

// Radius tells the radius.
func Radius(f api.FCircle) (float64, api.Errno) {
	power := Power(f)
	switch {
	case !cplx.Finite(cplx.Of(f.A, f.C)), !cplx.Finite(f.B):
		return 0, api.ErrFloat
	case f.A == 0:
		return 0, api.ErrZero
	case power < 0:
		return 0, api.ErrNone
	}
	return math.Sqrt(power) / math.Abs(f.A), api.OK
}

// Points goes over points of a circle.
func Points(f api.FCircle, n int) (iter.Seq2[int, complex128], api.Errno) {
	switch {
	case n < 1:
		return nil, api.ErrArg
	case n > api.MaxList:
		return nil, api.ErrLong
	}
	radius, e := Radius(f)
	if e != api.OK {
		return nil, e
	}
	// What has a radius has a centre: Centre asks no more than Radius.
	middle := centre(f)
	return func(yield func(int, complex128) bool) {
		for k, u := range onUnit(n) {
			if !yield(k, cplx.Add(middle, cplx.Scale(u, radius))) {
				return
			}
		}
	}, api.OK
}

// onUnit goes over points of the circle about 0 with the radius 1: where the line
// of the slope k / n through -1 meets it again. Nothing is kept from one to the
// next, so that each range begins anew.
func onUnit(n int) iter.Seq2[int, complex128] {
	return func(yield func(int, complex128) bool) {
		for k := range n {
			t := float64(k) / float64(n)
			s := times(t, t)
			if !yield(k, cplx.Of((1-s)/(1+s), (t+t)/(1+s))) {
				return
			}
		}
	}
}

// centre has its parts divided one by one, as they are: cplx.Div goes otherwise.
func centre(f api.FCircle) complex128 {
	return cplx.Of(real(cplx.Neg(f.B))/f.A, imag(f.B)/f.A)
}
