package mob

import (
	"iter"

	"tracery/api"
	"tracery/sphere"
)

// At answers where the map sends the point.
func At(m api.Mob, p api.Point) (api.Point, api.Errno) {
	w, e := taken(m)
	if e != api.OK || !sphere.May(p) {
		return api.Point{}, api.ErrArg
	}
	return w.at(vectorOf(p)).told()
}

// Images answers where the map sends each point.
func Images(m api.Mob, l ...api.Point) ([]api.Point, api.Errno) {
	if len(l) > api.MaxList {
		return nil, api.ErrLong
	}
	w, e := taken(m)
	if e != api.OK {
		return nil, e
	}
	for _, p := range l {
		// A point that may not be is told ahead of an image that is too big.
		if !sphere.May(p) {
			return nil, api.ErrArg
		}
	}
	images := make([]api.Point, 0, len(l))
	for _, p := range l {
		image, e := w.at(vectorOf(p)).told()
		if e != api.OK {
			return nil, e
		}
		images = append(images, image)
	}
	return images, api.OK
}

// Pole answers the point that goes to infinity.
func Pole(m api.Mob) (api.Point, api.Errno) {
	w, e := taken(m)
	if e != api.OK {
		return api.Point{}, e
	}
	return w.inverse().at(vectorOf(sphere.Infinity())).told()
}

// Orbit goes over where the point is sent by the map, done 0 to n times.
func Orbit(m api.Mob, p api.Point, n int) (iter.Seq2[int, api.Point], api.Errno) {
	w, e := taken(m)
	switch {
	case e != api.OK, !sphere.May(p), n < 0:
		return nil, api.ErrArg
	case n > api.MaxList:
		return nil, api.ErrLong
	}
	return func(yield func(int, api.Point) bool) {
		// Where it stands is kept in here, so that each range begins anew.
		at, e := p, api.OK
		for k := 0; yield(k, at) && k < n; k++ {
			if at, e = w.at(vectorOf(at)).told(); e != api.OK {
				return
			}
		}
	}, api.OK
}
