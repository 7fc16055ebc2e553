package nets

import (
	"tracery/api"
	"tracery/sphere"
)

// Last tells the last corner of a cube.
func Last(c api.Cube) (api.Point, api.Errno) {
	k, e := cubeOf(c)
	if e != api.OK {
		return api.Point{}, e
	}
	l, e := lastBy(k.first)
	if e != api.OK {
		return api.Point{}, e
	}
	return l[0], api.OK
}

// Faces tells it by each of three faces.
func Faces(c api.Cube) ([3]api.Point, api.Errno) {
	k, e := cubeOf(c)
	if e != api.OK {
		return [3]api.Point{}, e
	}
	l, e := lastBy(k.first, k.second, k.third)
	if e != api.OK {
		return [3]api.Point{}, e
	}
	return [3]api.Point(l), api.OK
}

// cube is a cube's corners, but for the first one and the last one, and the
// ratios of its faces.
type cube struct {
	p1, p2, p3, p12, p13, p23 pair
	ab, ac, bc                pair
}

func cubeOf(c api.Cube) (cube, api.Errno) {
	// Each two of the four are corners of one square. Alike refuses with
	// ErrNone, if no two are the same.
	_, _, twins := sphere.Alike(c.P, c.P1, c.P2, c.P3)
	labels := []api.Gauss{c.A, c.B, c.C}
	switch {
	case twins == api.ErrArg, !every(isLabel, labels), c.A == c.B, c.B == c.C, c.C == c.A:
		return cube{}, api.ErrArg
	case twins == api.OK:
		return cube{}, api.ErrNet
	}
	p := pairOf(c.P)
	k := cube{
		p1: pairOf(c.P1), p2: pairOf(c.P2), p3: pairOf(c.P3),
		ab: ratioOf(c.A, c.B), ac: ratioOf(c.A, c.C), bc: ratioOf(c.B, c.C),
	}
	k.p12, k.p13, k.p23 = corner(p, k.p1, k.p2, k.ab), corner(p, k.p1, k.p3, k.ac), corner(p, k.p2, k.p3, k.bc)
	return k, api.OK
}

// Each face answers three of its corners and its ratio.

func (k cube) first() [4]pair { return [4]pair{k.p1, k.p12, k.p13, k.bc} }

func (k cube) second() [4]pair { return [4]pair{k.p2, k.p12, k.p23, k.ac} }

func (k cube) third() [4]pair { return [4]pair{k.p3, k.p13, k.p23, k.ab} }

// lastBy answers the last corner by each of some faces. All of them are looked at
// ahead of the first corner that is told, since that may be too big.
func lastBy(faces ...func() [4]pair) ([]api.Point, api.Errno) {
	var corners []pair
	for _, face := range faces {
		l := face()
		if l[0].same(l[1]) || l[1].same(l[2]) || l[2].same(l[0]) {
			return nil, api.ErrNet
		}
		corners = append(corners, corner(l[0], l[1], l[2], l[3]))
	}
	points := make([]api.Point, 0, len(corners))
	for _, r := range corners {
		p, e := r.told()
		if e != api.OK {
			return nil, e
		}
		points = append(points, p)
	}
	return points, api.OK
}
