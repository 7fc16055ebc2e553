package fixed

import (
	"tracery/api"
	"tracery/cplx"
	"tracery/fmob"
	"tracery/sphere"
)

// Points answers the points that stay, in order.
func Points(m api.Mob) ([]api.Point, api.Errno) {
	if e := moving(m); e != api.OK {
		return nil, e
	}
	numbers, e := matrixOf(m).staying()
	if e != api.OK {
		return nil, e
	}
	points := make([]api.Point, 0, 2)
	if m.C == zero() {
		points = append(points, sphere.Infinity())
	}
	for _, z := range numbers {
		points = append(points, api.Point{Z: z})
	}
	return points, api.OK
}

// Floats answers the points that stay by floats, in order.
func Floats(m api.Mob) ([]api.FPoint, api.Errno) {
	if e := moving(m); e != api.OK {
		return nil, e
	}
	f, e := fmob.Of(m)
	switch {
	case e != api.OK:
		return nil, e
	case m.C != zero():
		return floatsOf(f, kindOf(m) == api.MobShift)
	case m.A == one():
		return []api.FPoint{{Inf: true}}, api.OK
	}
	return []api.FPoint{{Inf: true}, {Z: cplx.Div(f.B, cplx.Sub(1, f.A))}}, api.OK
}

// floatsOf is for maps whose C is 1. Whether just one point stays the floats
// can't tell: it is told to them.
func floatsOf(f api.FMob, alone bool) ([]api.FPoint, api.Errno) {
	apart := cplx.Sub(f.A, f.D)
	root, e := cplx.Sqrt(cplx.Add(cplx.Mul(apart, apart), cplx.Scale(f.B, 4)))
	if e != api.OK {
		return nil, e
	}
	both := [2]complex128{cplx.Add(apart, root), cplx.Sub(apart, root)}
	points := make([]api.FPoint, 0, len(both))
	for k, z := range both {
		if k == 0 || !alone {
			points = append(points, api.FPoint{Z: cplx.Scale(z, 0.5)})
		}
	}
	return points, api.OK
}

// Factor answers by what a map multiplies, in the place in which its first point
// goes to infinity and its second one to 0.
func Factor(m api.Mob) (api.Gauss, api.Errno) {
	points, e := Points(m)
	switch {
	case e != api.OK:
		return api.Gauss{}, e
	case len(points) == 1:
		return one(), api.OK
	case m.C == zero():
		return m.A, api.OK
	}
	// Infinity stands at 1 there, and goes to A, which so stands at the factor.
	l := wholes(m.A, points[0].Z, points[1].Z)
	return l[0].minus(l[2]).over(l[0].minus(l[1]))
}
