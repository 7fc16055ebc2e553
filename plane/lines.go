package plane

import (
	"math/big"

	"tracery/api"
	"tracery/circ"
	"tracery/frac"
)

// Line answers the straight line on which both points are.
func Line(p api.Picture, z, w api.Gauss) (api.Circle, api.Errno) {
	v, l, e := unlike(p, z, w)
	if e != api.OK {
		return api.Circle{}, e
	}
	return v.across(l[0].light(), l[1].light()).told()
}

// IsLine tells whether a circle is a straight line of the picture.
func IsLine(p api.Picture, c api.Circle) (bool, api.Errno) {
	v, e := viewOf(p)
	if e != api.OK || circ.Check(c) != api.OK {
		return false, api.ErrArg
	}
	return v.straight(formOf(c)), api.OK
}

// Upright answers the straight line on which z is, and that is upright on c.
func Upright(p api.Picture, c api.Circle, z api.Gauss) (api.Circle, api.Errno) {
	b, e := besideOf(p, c, z)
	if e != api.OK {
		return api.Circle{}, e
	}
	return b.view.across(b.line, b.light).told()
}

// Foot answers the point in which that line crosses c.
func Foot(p api.Picture, c api.Circle, z api.Gauss) (api.Gauss, api.Errno) {
	b, e := besideOf(p, c, z)
	if e != api.OK {
		return api.Gauss{}, e
	}
	foot, e := b.foot()
	if e != api.OK {
		return api.Gauss{}, e
	}
	return foot.told()
}

// Over answers where z is, turned over c.
func Over(p api.Picture, c api.Circle, z api.Gauss) (api.Gauss, api.Errno) {
	b, e := besideOf(p, c, z)
	if e != api.OK {
		return api.Gauss{}, e
	}
	return b.over().told()
}

// Middle answers the straight line over which turned z is w.
func Middle(p api.Picture, z, w api.Gauss) (api.Circle, api.Errno) {
	v, l, e := unlike(p, z, w)
	if e != api.OK {
		return api.Circle{}, e
	}
	// A light's value at a point is how far that is, squared, as Euclid tells it.
	return mixed(
		share{of: l[0].light(), by: v.depth(l[1])},
		share{of: l[1].light(), by: opposite(v.depth(l[0]))},
	).told()
}

// Around answers the circle of all points that are just so far from z.
func Around(p api.Picture, z api.Gauss, far api.Frac) (api.Circle, api.Errno) {
	if above, e := frac.Cmp(far, frac.Int(1)); e != api.OK || above <= 0 {
		return api.Circle{}, api.ErrArg
	}
	v, l, e := taken(p, z)
	if e != api.OK {
		return api.Circle{}, e
	}
	num, den := bigOf(far.Num), bigOf(far.Den)
	return mixed(
		share{of: l[0].light(), by: double(den)},
		share{of: v.edge, by: times(minus(num, den), v.depth(l[0]))},
	).told()
}

// unlike answers what taken does, unless both points are the same.
func unlike(p api.Picture, z, w api.Gauss) (view, []pair, api.Errno) {
	v, l, e := taken(p, z, w)
	if e == api.OK && z == w {
		return view{}, nil, api.ErrSame
	}
	return v, l, e
}

// beside is a straight line, and a point beside it or on it.
type beside struct {
	view  view
	line  form
	light form     // the point's
	depth *big.Int // the point's
}

func besideOf(p api.Picture, c api.Circle, z api.Gauss) (beside, api.Errno) {
	if circ.Check(c) != api.OK {
		return beside{}, api.ErrArg
	}
	v, l, e := taken(p, z)
	if e != api.OK {
		return beside{}, e
	}
	line := formOf(c)
	if !v.straight(line) {
		return beside{}, api.ErrOut
	}
	return beside{view: v, line: line, light: l[0].light(), depth: v.depth(l[0])}, api.OK
}

// over answers where the point is, turned over the line: what of its light is
// upright on the line stays, and the rest, which is the line times a number,
// changes its sign.
func (b beside) over() pair {
	return mixed(
		share{of: b.light, by: b.line.power()},
		share{of: b.line, by: opposite(b.light.twice(b.line))},
	).centre()
}

// foot answers where the way from the point that is upright on the line meets
// it. The lights of the point and of where it is, turned over, are taken
// together, so that what they have of the line falls away: that is the foot's
// light, but for what it has of the edge, which must make its power 0: that
// asks for a root.
func (b beside) foot() (pair, api.Errno) {
	power, off := b.line.power(), b.light.twice(b.line)
	deep := times(power, b.depth)
	sought := plus(square(deep), times(power, square(off)))
	root := new(big.Int).Sqrt(sought)
	if square(root).Cmp(sought) != 0 {
		return pair{}, api.ErrNone
	}
	return mixed(
		share{of: b.light, by: double(power)},
		share{of: b.line, by: opposite(off)},
		share{of: b.view.edge, by: minus(root, deep)},
	).centre(), api.OK
}
