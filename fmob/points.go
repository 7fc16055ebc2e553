package fmob

import (
	"iter"
	"slices"

	"tracery/api"
	"tracery/cplx"
)

// At tells where a point goes.
func At(f api.FMob, p api.FPoint) api.FPoint {
	if p.Inf {
		return over(f.A, f.C)
	}
	w := turned(p.Z, f.Turns)
	return over(onLine(f.A, w, f.B), onLine(f.C, w, f.D))
}

// Slope tells how a map stretches at a point.
func Slope(f api.FMob, z complex128) complex128 {
	d := onLine(f.C, turned(z, f.Turns), f.D)
	return cplx.Div(Det(f), cplx.Mul(d, d))
}

// Orbit goes over where a point goes, again and again.
func Orbit(f api.FMob, p api.FPoint) iter.Seq[api.FPoint] { return way(p, endlessly(f)) }

// Run brings a point on by many maps.
func Run(p api.FPoint, l ...api.FMob) api.FPoint {
	var last api.FPoint
	for q := range way(p, slices.Values(l)) {
		last = q
	}
	return last
}

// Same tells whether two points are.
func Same(p, q api.FPoint) bool {
	if p.Inf || q.Inf {
		return p.Inf && q.Inf
	}
	return cplx.Like(p.Z, q.Z)
}

// way goes over p and where each of the maps, in turn, brings it on.
func way(p api.FPoint, maps iter.Seq[api.FMob]) iter.Seq[api.FPoint] {
	return func(yield func(api.FPoint) bool) {
		q := plain(p)
		if !yield(q) {
			return
		}
		for f := range maps {
			q = At(f, q)
			if !yield(q) {
				return
			}
		}
	}
}

func endlessly(f api.FMob) iter.Seq[api.FMob] {
	return func(yield func(api.FMob) bool) {
		for yield(f) {
		}
	}
}

// plain lays off what may be handed in beside infinity.
func plain(p api.FPoint) api.FPoint {
	if p.Inf {
		return infinity()
	}
	return p
}

func infinity() api.FPoint { return api.FPoint{Inf: true} }

// over answers infinity over either nought, whatever stands above it.
func over(n, d complex128) api.FPoint {
	if d == 0 {
		return infinity()
	}
	return api.FPoint{Z: cplx.Div(n, d)}
}

// onLine is a w + b.
func onLine(a, w, b complex128) complex128 { return cplx.Add(cplx.Mul(a, w), b) }
