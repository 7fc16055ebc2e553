package plane

import (
	"math/big"

	"tracery/api"
	"tracery/gauss"
)

// view is what differs from picture to picture.
type view struct {
	edge form    // its value is below 0 at the picture's points
	rim  [3]pair // points of the edge
	core pair    // a point of the picture

	// depth is the edge's value at a point, its sign turned.
	depth func(p pair) *big.Int

	// across answers the straight line that is upright on two unlike forms. What
	// is upright on a light goes through its point.
	across func(f, g form) form

	// move answers the map that sends z to w.
	move func(z, w pair) matrix
}

// views answers both pictures.
func views() [2]view {
	return [2]view{
		{
			edge:   form{a: big.NewInt(0), b: is(0, 1), c: big.NewInt(0)},
			rim:    [3]pair{{is(0, 0), is(1, 0)}, {is(1, 0), is(1, 0)}, {is(1, 0), is(0, 0)}},
			core:   pair{is(0, 1), is(1, 0)},
			depth:  func(p pair) *big.Int { return double(p[0].area(p[1])) },
			across: acrossUpper,
			move:   moveUpper,
		},
		{
			edge:   form{a: big.NewInt(1), b: is(0, 0), c: big.NewInt(-1)},
			rim:    [3]pair{{is(1, 0), is(1, 0)}, {is(0, 1), is(1, 0)}, {is(-1, 0), is(1, 0)}},
			core:   pair{is(0, 0), is(1, 0)},
			depth:  func(p pair) *big.Int { return minus(p[1].norm(), p[0].norm()) },
			across: acrossRound,
			move:   moveRound,
		},
	}
}

func viewOf(p api.Picture) (view, api.Errno) {
	both := views()
	switch p {
	case api.Upper:
		return both[0], api.OK
	case api.Round:
		return both[1], api.OK
	}
	return view{}, api.ErrArg
}

// taken answers the picture and the numbers as they are reckoned with, if all
// of them are its points.
func taken(p api.Picture, l ...api.Gauss) (view, []pair, api.Errno) {
	v, e := viewOf(p)
	if e != api.OK {
		return view{}, nil, e
	}
	points := make([]pair, 0, len(l))
taking:
	for _, z := range l {
		if !gauss.May(z) {
			e = api.ErrArg // nothing stands ahead of it
			break taking
		}
		point := pairOf(z)
		if v.depth(point).Sign() <= 0 {
			e = api.ErrOut // one further on may not be
		}
		points = append(points, point)
	}
	if e != api.OK {
		return view{}, nil, e
	}
	return v, points, api.OK
}

// apart answers how far two points are from each other, times both depths: in
// each picture it is 1 + 2 |z - w|^2 over these.
func (v view) apart(z, w pair) *big.Int {
	return minus(times(v.depth(z), v.depth(w)), double(z.light().twice(w.light())))
}

func (v view) straight(f form) bool { return f.twice(v.edge).Sign() == 0 }

// keptBy tells whether the map sends the edge to itself, which three points
// tell, and the picture's points to its inside.
func (v view) keptBy(m matrix) bool {
	for _, p := range v.rim {
		if v.depth(m.image(p)).Sign() != 0 {
			return false
		}
	}
	return v.depth(m.image(v.core)).Sign() > 0
}

// acrossUpper: since b has no imaginary part, three numbers tell a straight
// line, and what is asked of them are two equations.
func acrossUpper(f, g form) form {
	return form{
		a: double(minus(times(f.a, g.b.re), times(f.b.re, g.a))),
		b: flat(minus(times(f.a, g.c), times(f.c, g.a))),
		c: double(minus(times(f.b.re, g.c), times(f.c, g.b.re))),
	}
}

// acrossRound: since a and c are the same, three numbers do here, too.
func acrossRound(f, g form) form {
	both, other := plus(f.a, f.c), plus(g.a, g.c)
	same := double(g.b.area(f.b))
	return form{
		a: same,
		b: long{
			re: minus(times(both, g.b.im), times(f.b.im, other)),
			im: minus(times(f.b.re, other), times(both, g.b.re)),
		},
		c: same,
	}
}

// moveUpper is for numbers, whose second coordinates are real ones.
func moveUpper(z, w pair) matrix {
	return matrix{
		a: flat(times(w[0].im, z[1].re)),
		b: flat(z[0].area(w[0])),
		c: is(0, 0),
		d: flat(times(z[0].im, w[1].re)),
	}
}

// moveRound is for numbers, whose second coordinates are real ones.
func moveRound(z, w pair) matrix {
	a := z[1].times(w[1]).minus(w[0].times(z[0].conj()))
	b := w[0].times(z[1]).minus(z[0].times(w[1]))
	return matrix{a: a, b: b, c: b.conj(), d: a.conj()}
}
