package invert

import (
	"tracery/api"
	"tracery/sphere"
)

// pair is a point by its two coordinates, the one over the other one, infinity
// if that is 0. Both times any number but 0 stand for the same point.
type pair [2]long

// pairOf is for points that may be.
func pairOf(p api.Point) pair {
	if p.Inf {
		return pair{short(1), short(0)}
	}
	l := wholes(p.Z.Re, p.Z.Im, one())
	return pair{{re: l[0], im: l[1]}, flat(l[2])}
}

func (p pair) told() (api.Point, api.Errno) {
	if p[1].zero() {
		return sphere.Infinity(), api.OK
	}
	l, e := told(p[1], p[0])
	if e != api.OK {
		return api.Point{}, e
	}
	return api.Point{Z: l[0]}, api.OK
}

// point is for points that may be.
func (f form) point(p api.Point) (api.Point, api.Errno) { return f.turned(pairOf(p)).told() }
