package nets

import (
	"math/big"

	"tracery/api"
	"tracery/gauss"
	"tracery/sphere"
)

// pair is a point by its two coordinates, the one over the other one, infinity
// if that is 0. Both times any number but 0 stand for the same point: so whole
// numbers do, however long, and nothing is divided till the point is told.
type pair [2]long

// pairOf is for points that may be.
func pairOf(p api.Point) pair {
	if p.Inf {
		return pair{short(1), short(0)}
	}
	l := wholes(p.Z.Re, p.Z.Im, gauss.Int(1, 0).Re)
	return pair{{re: l[0], im: l[1]}, {re: l[2], im: new(big.Int)}}
}

func pairsOf(l []api.Point) []pair {
	pairs := make([]pair, 0, len(l))
	for _, p := range l {
		pairs = append(pairs, pairOf(p))
	}
	return pairs
}

// ratioOf answers a over b, which are numbers that may be, not both 0.
func ratioOf(a, b api.Gauss) pair {
	l := wholes(a.Re, a.Im, b.Re, b.Im)
	return pair{{re: l[0], im: l[1]}, {re: l[2], im: l[3]}}
}

// det is 0 just if both stand for the same point.
func (p pair) det(q pair) long { return p[0].times(q[1]).minus(p[1].times(q[0])) }

func (p pair) same(q pair) bool { return p.det(q).zero() }

func (p pair) times(z long) pair { return pair{p[0].times(z), p[1].times(z)} }

func (p pair) plus(q pair) pair { return pair{p[0].plus(q[0]), p[1].plus(q[1])} }

func (p pair) conj() pair { return pair{p[0].conj(), p[1].conj()} }

func (p pair) told() (api.Point, api.Errno) {
	if p[1].zero() {
		return sphere.Infinity(), api.OK
	}
	z, e := p[0].over(p[1])
	if e != api.OK {
		return api.Point{}, e
	}
	return api.Point{Z: z}, api.OK
}

// corner answers the last corner of a square, of unlike p, q and s and of a ratio
// that is a over b. That det(p, q) det(r, s) b is det(q, r) det(s, p) a, r being
// that corner, says that r and what is told here stand for the same point.
func corner(p, q, s, ratio pair) pair {
	a, b := ratio[0], ratio[1]
	return q.times(a.times(s.det(p))).plus(s.times(b.times(p.det(q))))
}
