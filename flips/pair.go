package flips

import (
	"tracery/api"
	"tracery/gauss"
	"tracery/sphere"
)

// pair is a point by its two coordinates, the one over the other one, infinity
// if that is 0; or a ratio likewise. Both times any number but 0 stand for the
// same: so whole numbers do, however long, and nothing is divided till it is told.
type pair [2]long

// pairOf is for points that may be.
func pairOf(p api.Point) pair {
	if p.Inf {
		return ratioOf(gauss.Int(1, 0), gauss.Int(0, 0))
	}
	return ratioOf(p.Z, gauss.Int(1, 0))
}

// ratioOf answers a over b, which are numbers that may be.
func ratioOf(a, b api.Gauss) pair { return pair(wholes(a, b)) }

// det is 0 just if both stand for the same point.
func (p pair) det(q pair) long { return p[0].times(q[1]).minus(p[1].times(q[0])) }

func (p pair) times(z long) pair { return pair{p[0].times(z), p[1].times(z)} }

func (p pair) plus(q pair) pair { return pair{p[0].plus(q[0]), p[1].plus(q[1])} }

func (p pair) told() (api.Point, api.Errno) {
	if p[1].zero() {
		return sphere.Infinity(), api.OK
	}
	z, e := dividing(p[1])(p[0])
	if e != api.OK {
		return api.Point{}, e
	}
	return api.Point{Z: z}, api.OK
}

// fits tells whether the four are unlike, and a square with this ratio, which is
// neither 0 nor 1. It wants p and q, and r and s, to be unlike, as two of a net's
// square are: so x is not 0, and neither is y, if it is the same; and of two that
// stand across and are the same x and y are so only by the ratio 1.
func fits(p, q, r, s, ratio pair) bool {
	x := p.det(q).times(r.det(s)).times(ratio[1])
	y := q.det(r).times(s.det(p)).times(ratio[0])
	return x.same(y)
}

// step sends the third corner of a square to its last one.
type step func(s pair) pair

// stepOf is for unlike p and q, and the ratio a over b. That det(p, q) det(r, s)
// b is det(q, r) det(s, p) a, r being the last corner, says that r and what the
// step tells stand for the same point. It sums up over s's coordinates: so what
// it does to both columns of a map is the map with the step behind it.
func stepOf(p, q api.Point, a, b api.Gauss) step {
	from, to, ratio := pairOf(p), pairOf(q), ratioOf(a, b)
	side := ratio[1].times(from.det(to))
	return func(s pair) pair {
		return to.times(ratio[0].times(s.det(from))).plus(s.times(side))
	}
}

// onward answers the step behind a map that does not turn.
func onward(m api.Mob, do step) (api.Mob, api.Errno) {
	l := wholes(m.A, m.B, m.C, m.D)
	inf, nought := do(pair{l[0], l[2]}), do(pair{l[1], l[3]})
	unit := inf[1]
	if unit.zero() {
		unit = nought[1]
	}
	divide := dividing(unit)
	var parts [4]api.Gauss
	for k, z := range [4]long{inf[0], nought[0], inf[1], nought[1]} {
		part, e := divide(z)
		if e != api.OK {
			return api.Mob{}, e
		}
		parts[k] = part
	}
	return api.Mob{A: parts[0], B: parts[1], C: parts[2], D: parts[3]}, api.OK
}
