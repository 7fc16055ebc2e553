package arcs

import (
	"tracery/api"
	"tracery/cplx"
)

// Box tells the corners of the least upright box about all arcs: that at the left
// below, and that at the right above.
func Box(l ...api.Arc) (complex128, complex128, api.Errno) {
	if e := checked(l); e != api.OK {
		return 0, 0, e
	}
	if len(l) == 0 {
		return 0, 0, api.ErrNone
	}
	low := corners(l[0])[0]
	high := low
	for _, a := range l {
		for _, z := range corners(a) {
			if !finite(z) {
				return 0, 0, api.ErrFloat
			}
			low = cplx.Of(lesser(real(low), real(z)), lesser(imag(low), imag(z)))
			high = cplx.Of(greater(real(high), real(z)), greater(imag(high), imag(z)))
		}
	}
	return low, high, api.OK
}

// corners are the points by which an arc's box is told.
func corners(a api.Arc) []complex128 {
	var l []complex128
	switch a.Kind {
	case api.ArcStraight:
		l = append(l, a.From, a.To)
	case api.ArcBow:
		l = append(l, a.From, a.To)
		fallthrough
	case api.ArcRound:
		for _, z := range outermost(a) {
			if a.Kind == api.ArcRound || onSide(a, z) {
				l = append(l, z)
			}
		}
	}
	return l
}

// onSide tells whether a point is on that side of a bow's chord on which the bow
// is. A NaN is on neither.
func onSide(a api.Arc, z complex128) bool {
	d := cplx.Cross(cplx.Sub(a.To, a.From), cplx.Sub(z, a.From))
	if a.Left {
		return d < 0
	}
	return d > 0
}

// lesser and greater let the first one stand, where neither is: Go's min and max
// would hold one nought against the other.

func lesser(x, y float64) float64 {
	if y < x {
		return y
	}
	return x
}

func greater(x, y float64) float64 {
	if x < y {
		return y
	}
	return x
}
