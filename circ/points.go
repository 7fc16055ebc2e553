package circ

import (
	"tracery/api"
	"tracery/gauss"
	"tracery/sphere"
)

// Through answers the circle on which three points are.
func Through(p, q, r api.Point) (api.Circle, api.Errno) {
	if e := listed(p, q, r); e != api.OK {
		return api.Circle{}, e
	}
	three, found := firstUnlike(p, q, r)
	if !found {
		return api.Circle{}, api.ErrTwins
	}
	return through(three)
}

// On tells whether all of the points are on the circle.
func On(c api.Circle, l ...api.Point) (bool, api.Errno) {
	f, e := taken(c)
	if e != api.OK {
		return false, e
	}
	if e := listed(l...); e != api.OK {
		return false, e
	}
	return f.holds(l), api.OK
}

// Value answers the circle's value at z.
func Value(c api.Circle, z api.Gauss) (api.Frac, api.Errno) {
	f, e := taken(c)
	if e != api.OK || !gauss.May(z) {
		return api.Frac{}, api.ErrArg
	}
	p := pairOf(api.Point{Z: z})
	return lowest(f.at(p), times(f.unit(), p[1].norm()))
}

// Side tells on which side of the circle the point is.
func Side(c api.Circle, p api.Point) (int, api.Errno) {
	f, e := taken(c)
	if e != api.OK || !sphere.May(p) {
		return 0, api.ErrArg
	}
	return f.side(p), api.OK
}

// Together answers the circle on which all of the points are, if there is one.
func Together(l ...api.Point) (api.Circle, bool, api.Errno) {
	if e := listed(l...); e != api.OK {
		return api.Circle{}, false, e
	}
	three, found := firstUnlike(l...)
	if !found {
		return api.Circle{}, false, api.ErrNone
	}
	c, e := through(three)
	if e != api.OK || !formOf(c).holds(l) {
		return api.Circle{}, false, e
	}
	return c, true, api.OK
}

// listed tells what is wrong with a list of points. One that may not be is told
// ahead of a list that is too long.
func listed(l ...api.Point) api.Errno {
	for _, p := range l {
		if !sphere.May(p) {
			return api.ErrArg
		}
	}
	if len(l) > api.MaxList {
		return api.ErrLong
	}
	return api.OK
}

// firstUnlike answers the first point, the first one that is unlike to it, and
// the first one that is unlike to both.
func firstUnlike(l ...api.Point) (three [3]api.Point, found bool) {
	count := 0
points:
	for _, p := range l {
		for _, q := range three[:count] {
			if p == q {
				continue points
			}
		}
		three[count] = p
		if count++; count == len(three) {
			break points
		}
	}
	return three, count == len(three)
}

// through is for unlike points that may be. There is one map that sends
// infinity, 0 and 1 to them, and it takes the real line to their circle.
func through(three [3]api.Point) (api.Circle, api.Errno) {
	return realLine().image(frame(three)).told()
}

func (f form) holds(l []api.Point) bool {
	for _, p := range l {
		if f.side(p) != 0 {
			return false
		}
	}
	return true
}
