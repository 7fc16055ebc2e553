package fcirc

import (
	"tracery/api"
	"tracery/cplx"
)

// three are points by floats.
type three [3]complex128

// Through tells the circle through three points.
func Through(p, q, r complex128) (api.FCircle, api.Errno) {
	l := three{p, q, r}
	if !l.finite() {
		return api.FCircle{}, api.ErrFloat
	}
	f := l.circle()
	if f.A == 0 && f.B == 0 {
		return api.FCircle{}, api.ErrZero
	}
	return f, api.OK
}

func (l three) finite() bool {
	for _, z := range l {
		if !cplx.Finite(z) {
			return false
		}
	}
	return true
}

// circle is told of the points moved so that the first one is 0, and moved back.
func (l three) circle() api.FCircle {
	p := l[0]
	a, e := throughNought(cplx.Sub(l[1], p), cplx.Sub(l[2], p))
	return api.FCircle{
		A: a,
		B: cplx.Sub(e, cplx.Scale(cplx.Conj(p), a)),
		C: times(a, cplx.Abs2(p)) - twice(cplx.Mul(e, p)),
	}
}

// throughNought tells A and B of the circle through 0, a and b; its C is 0.
func throughNought(a, b complex128) (float64, complex128) {
	g := cplx.Sub(cplx.Scale(b, cplx.Abs2(a)), cplx.Scale(a, cplx.Abs2(b)))
	return cplx.Cross(a, b), cplx.Scale(cplx.Of(imag(g), real(g)), -0.5)
}
