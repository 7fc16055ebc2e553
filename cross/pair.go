package cross

import (
	"math/big"

	"tracery/api"
	"tracery/sphere"
)

// pair is a point by its two coordinates. Both times any number but 0 stand for
// the same point: so whole numbers do, and nothing is divided till the point is
// told. Two noughts stand for no point.
type pair [2]long

// pairOf is for points that may be.
func pairOf(p api.Point) pair {
	if p.Inf {
		return pair{short(1), short(0)}
	}
	x, y := p.Z.Re, p.Z.Im
	under := multiple(bigOf(x.Den), bigOf(y.Den))
	whole := func(x api.Frac) *big.Int { return times(bigOf(x.Num), over(under, bigOf(x.Den))) }
	return pair{{re: whole(x), im: whole(y)}, {re: under, im: big.NewInt(0)}}
}

func (p pair) det(q pair) long { return p[0].times(q[1]).minus(p[1].times(q[0])) }

// same tells whether both stand for the same point; equal, whether they do so
// by the same numbers.
func (p pair) same(q pair) bool { return p.det(q).zero() }

func (p pair) equal(q pair) bool { return p[0].equal(q[0]) && p[1].equal(q[1]) }

func (p pair) conj() pair { return pair{p[0].conj(), p[1].conj()} }

// told is the one place that refuses a point for its length.
func (p pair) told() (api.Point, api.Errno) {
	if p[1].zero() {
		return sphere.Infinity(), api.OK
	}
	z, e := p[0].over(p[1])
	if e != api.OK {
		return api.Point{}, e
	}
	return api.Point{Z: z}, api.OK
}

// row is four points.
type row [4]pair

// rowOf is for points that may be.
func rowOf(four [4]api.Point) row {
	var l row
	for k, p := range four {
		l[k] = pairOf(p)
	}
	return l
}

// ratio answers the cross ratio. What a point's coordinates have as a factor
// stands in both numbers, and so does no harm.
func (l row) ratio() pair {
	a, b, c, d := l[0], l[1], l[2], l[3]
	return pair{a.det(b).times(c.det(d)), b.det(c).times(d.det(a))}
}

// fourth answers the d whose ratio with the first three is r, the last one of
// the row. Each det of d is a sum over its coordinates, so that r[0] det(b, c)
// det(d, a) less r[1] det(a, b) det(c, d), which is to be 0, is the det of d
// and the pair that is made here; and d is that pair, therefore.
func (l row) fourth() pair {
	a, b, c, r := l[0], l[1], l[2], l[3]
	byA, byC := r[0].times(b.det(c)), r[1].times(a.det(b))
	var d pair
	for k := range d {
		d[k] = byA.times(a[k]).plus(byC.times(c[k]))
	}
	return d
}
