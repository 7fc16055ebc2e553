package grid

import (
	"math/big"

	"tracery/api"
	"tracery/gauss"
)

// pair is a point by its two coordinates, the one over the other one, infinity
// if that is 0. Both times any number but 0 stand for the same point. Two
// noughts stand for none.
type pair [2]long

// pairOf is for points that may be.
func pairOf(p api.Point) pair {
	if p.Inf {
		return pair{short(1), short(0)}
	}
	l := wholes(p.Z.Re, p.Z.Im, gauss.Int(1, 0).Re)
	return pair{{re: l[0], im: l[1]}, {re: l[2], im: new(big.Int)}}
}

// det is 0 just if both stand for the same point, or one for none.
func (p pair) det(q pair) long { return p[0].times(q[1]).minus(p[1].times(q[0])) }

// same tells whether p stands for a point, and q for the same one.
func (p pair) same(q pair) bool {
	return !(p[0].zero() && p[1].zero()) && p[0].times(q[1]).same(p[1].times(q[0]))
}

// ratioOf answers the cross ratio, two noughts if there is none.
func ratioOf(a, b, c, d pair) pair {
	return pair{a.det(b).times(c.det(d)), b.det(c).times(d.det(a))}
}

// carry is the map that does not turn and sends three unlike points to three
// unlike ones, however long its numbers are. It sends d to e just if the ratio
// of the first three and d is that of their images and e: that is, if two
// products are the same. What of these hangs on the three alone is kept.
type carry struct {
	from, to    [3]pair
	left, right long
}

func carryOf(from, to [3]api.Point) carry {
	var c carry
	for k := range from {
		c.from[k], c.to[k] = pairOf(from[k]), pairOf(to[k])
	}
	left := c.from[0].det(c.from[1]).times(c.to[1].det(c.to[2]))
	right := c.from[1].det(c.from[2]).times(c.to[0].det(c.to[1]))
	c.left, c.right = lowered(left, right)
	return c
}

func (c carry) sends(d, e pair) bool {
	left := c.from[2].det(d).times(e.det(c.to[0]))
	right := d.det(c.from[0]).times(c.to[2].det(e))
	return c.left.times(left).same(c.right.times(right))
}
