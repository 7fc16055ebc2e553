package fcirc

import (
	"tracery/api"
	"tracery/cplx"
)

// Image tells a circle's image.
func Image(m api.FMob, f api.FCircle) api.FCircle {
	b := f.B
	if m.Turns {
		b = cplx.Conj(b)
	}
	// The form is changed by the matrix of the way back, whose columns are p, r and q, s.
	p, q, r, s := m.D, cplx.Neg(m.B), cplx.Neg(m.C), m.A
	outer := func(x, y complex128) float64 {
		squares := times(f.A, cplx.Abs2(x)) + times(f.C, cplx.Abs2(y))
		return squares + twice(ofThree(b, x, y))
	}
	inner := cplx.Add(
		cplx.Add(cplx.Scale(cplx.Mul(p, cplx.Conj(q)), f.A), ofThree(b, p, s)),
		cplx.Add(ofThree(cplx.Conj(b), r, q), cplx.Scale(cplx.Mul(r, cplx.Conj(s)), f.C)))
	return api.FCircle{A: outer(p, r), B: inner, C: outer(q, s)}
}

// ofThree is a product, the last one being taken by its conjugate.
func ofThree(b, x, y complex128) complex128 { return cplx.Mul(cplx.Mul(b, x), cplx.Conj(y)) }
