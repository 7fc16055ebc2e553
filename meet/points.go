package meet

import (
	"math/big"
	"slices"

	"tracery/api"
	"tracery/gauss"
)

// Points answers the points that two circles share, rising.
func Points(c, d api.Circle) ([]api.Point, api.Errno) {
	l, e := taken(c, d)
	if e != api.OK {
		return nil, e
	}
	depth := l[0].depth(l[1])
	switch lying(c, d, depth) {
	case api.LiesSame, api.LiesApart:
		return nil, api.ErrNone
	}
	roots := rootsOf(depth)
	if roots == nil {
		return nil, api.ErrRoot
	}
	return listed(l[0].shared(l[1]), roots)
}

// rootsOf answers the whole numbers whose square n is, which is not below 0.
func rootsOf(n *big.Int) []*big.Int {
	root := new(big.Int).Sqrt(n)
	switch {
	case square(root).Cmp(n) != 0:
		return nil
	case root.Sign() == 0:
		return []*big.Int{root}
	}
	return []*big.Int{root, opposite(root)}
}

// listed answers the points that at tells of the roots.
func listed(at func(root *big.Int) (api.Point, api.Errno), roots []*big.Int) ([]api.Point, api.Errno) {
	points := make([]api.Point, 0, len(roots))
	for _, root := range roots {
		p, e := at(root)
		if e != api.OK {
			return nil, e
		}
		points = append(points, p)
	}
	slices.SortFunc(points, order)
	return points, api.OK
}

// order is for unlike points.
func order(p, q api.Point) int {
	switch {
	case p.Inf:
		return 1
	case q.Inf:
		return -1
	}
	n, _ := gauss.Cmp(p.Z, q.Z) // what was made here may be
	return n
}

// shared answers what tells a point on both circles by a root of their depth.
// Where all is turned over the one, and then over the other, just these points
// stay. What then becomes of a point's two coordinates a matrix says, and of
// those that stay it makes the same ones, times half of its trace + i root: one
// row of the matrix tells which these are, unless it says nothing, as of lines.
func (f form) shared(g form) func(root *big.Int) (api.Point, api.Errno) {
	trace := f.twice(g)
	first := [2]long{
		g[1].conj().times(f[1]).minus(g[2].times(f[0])).double(),
		g[1].conj().times(f[2]).minus(g[2].times(f[1].conj())).double(),
	}
	second := [2]long{
		g[1].times(f[0]).minus(g[0].times(f[1])).double(),
		g[1].times(f[1].conj()).minus(g[0].times(f[2])).double(),
	}
	return func(root *big.Int) (api.Point, api.Errno) {
		by := long{re: trace, im: root}
		above, below := by.minus(second[1]), second[0]
		if above.zero() && below.zero() {
			above, below = first[1], by.minus(first[0])
		}
		return pointOf(above, below)
	}
}

// pointOf answers the one over the other; they are not both 0.
func pointOf(above, below long) (api.Point, api.Errno) {
	if below.zero() {
		return api.Point{Inf: true}, api.OK
	}
	z, by := above.times(below.conj()), below.norm()
	re, e := lowest(z.re, by)
	if e != api.OK {
		return api.Point{}, e
	}
	im, e := lowest(z.im, by)
	if e != api.OK {
		return api.Point{}, e
	}
	return api.Point{Z: api.Gauss{Re: re, Im: im}}, api.OK
}
