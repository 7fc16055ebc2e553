package arcs

import (
	"tracery/api"
	"tracery/cplx"
	"tracery/fcirc"
	"tracery/fmob"
)

// Through tells the arc from p by q to r.
func Through(p, q, r complex128) (api.Arc, api.Errno) {
	if !finite(p, q, r) {
		return api.Arc{}, api.ErrFloat
	}
	f, e := fcirc.Through(p, q, r)
	switch {
	case e != api.OK:
		return api.Arc{}, api.ErrNone
	case f.A == 0:
		return Straight(p, r)
	}
	centre, first := fcirc.Centre(f)
	radius, second := fcirc.Radius(f)
	switch {
	case first != api.OK, second != api.OK:
		return api.Arc{}, api.ErrNone
	case !finite(centre, cplx.Of(radius, 0)):
		return api.Arc{}, api.ErrFloat
	case radius == 0:
		return api.Arc{}, api.ErrNone
	}
	left := cplx.Cross(cplx.Sub(q, p), cplx.Sub(r, q)) > 0
	return api.Arc{Kind: api.ArcBow, From: p, To: r, Centre: centre, Radius: radius, Left: left}, api.OK
}

// Image tells an arc's image.
func Image(m api.FMob, a api.Arc) (api.Arc, api.Errno) {
	if e := Check(a); e != api.OK {
		return api.Arc{}, e
	}
	if !sends(m) {
		return api.Arc{}, api.ErrFloat
	}
	return image(m, a)
}

// Images tells the images of many arcs, of those that have one.
func Images(m api.FMob, l ...api.Arc) ([]api.Arc, api.Errno) {
	if e := checked(l); e != api.OK {
		return nil, e
	}
	if !sends(m) {
		return nil, api.ErrFloat
	}
	out := make([]api.Arc, 0, len(l))
	for _, a := range l {
		if b, e := image(m, a); e == api.OK {
			out = append(out, b)
		}
	}
	return out, api.OK
}

// image is for maps and arcs that may be.
func image(m api.FMob, a api.Arc) (api.Arc, api.Errno) {
	if a.Kind == api.ArcRound {
		f, e := Circle(a)
		if e != api.OK {
			return api.Arc{}, e
		}
		return Round(fcirc.Image(m, f))
	}
	middle, e := Middle(a)
	if e != api.OK {
		return api.Arc{}, e
	}
	l := [3]complex128{a.From, middle, a.To}
	for k, z := range l {
		p := fmob.At(m, api.FPoint{Z: z})
		if p.Inf {
			return api.Arc{}, api.ErrNone
		}
		l[k] = p.Z
	}
	return Through(l[0], l[1], l[2])
}

// sends tells whether a map may be.
func sends(m api.FMob) bool { return finite(m.A, m.B, m.C, m.D) }
