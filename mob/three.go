package mob

import (
	"tracery/api"
	"tracery/sphere"
)

// Of answers the map that sends three points to three others.
func Of(from, to [3]api.Point, turns bool) (api.Mob, api.Errno) {
	// Alike refuses with ErrNone, if no two are the same.
	_, _, twins := sphere.Alike(from[:]...)
	_, _, others := sphere.Alike(to[:]...)
	switch {
	case twins == api.ErrArg, others == api.ErrArg:
		return api.Mob{}, api.ErrArg
	case twins == api.OK, others == api.OK:
		return api.Mob{}, api.ErrTwins
	}
	// Infinity, 0 and 1 are where they are, turned or not.
	between := One()
	between.Turns = turns
	return frame(to).behind(matrixOf(between)).behind(frame(from).inverse()).told()
}

// frame answers the map that sends infinity, 0 and 1 to three unlike points.
// Its two columns are those of the first two points, each times what makes
// their sum the third one's.
func frame(three [3]api.Point) matrix {
	p, q, r := vectorOf(three[0]), vectorOf(three[1]), vectorOf(three[2])
	return matrix{inf: p.times(r.cross(q)), nought: q.times(p.cross(r))}
}
