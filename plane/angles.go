package plane

import (
	"math/big"

	"tracery/api"
)

// Between tells whether x is on the straight way from z to w.
func Between(p api.Picture, z, x, w api.Gauss) (bool, api.Errno) {
	v, l, e := taken(p, z, x, w)
	if e != api.OK {
		return false, e
	}
	// Seen from x both ends lie across from each other, or x is one of them.
	over, under := v.cosine(l[1], l[0], l[2])
	return over.Sign() <= 0 && square(over).Cmp(under) == 0, api.OK
}

// Angle tells the angle at at between the straight ways to z and to w, by the
// square of its cosine and its sign.
func Angle(p api.Picture, at, z, w api.Gauss) (cos2 api.Frac, sharp int, e api.Errno) {
	v, l, e := taken(p, at, z, w)
	switch {
	case e != api.OK:
		return api.Frac{}, 0, e
	case z == at, w == at:
		return api.Frac{}, 0, api.ErrSame
	}
	over, under := v.cosine(l[0], l[1], l[2])
	if cos2, e = lowest(square(over), under); e != api.OK {
		return api.Frac{}, 0, e
	}
	return cos2, over.Sign(), api.OK
}

// cosine answers two numbers: the square of the first one over the second one
// is that of the cosine of the angle at at, and the first one has its sign. With
// a, b, c being how far at and z, at and w, z and w are, they are a b - c and
// (a a - 1) (b b - 1), times a number and its square. The second one is 0, if at
// is z or w; then the first one is 0, too.
func (v view) cosine(at, z, w pair) (over, under *big.Int) {
	deep := v.depth(at)
	a, b, c := v.apart(at, z), v.apart(at, w), v.apart(z, w)
	over = minus(times(a, b), times(c, square(deep)))
	side := func(far *big.Int, end pair) *big.Int {
		return minus(square(far), square(times(deep, v.depth(end))))
	}
	return over, times(side(a, z), side(b, w))
}
