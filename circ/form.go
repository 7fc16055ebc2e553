package circ

import (
	"math/big"

	"tracery/api"
	"tracery/frac"
)

// form is a circle on its way: the points z with a |z|^2 + 2 Re(b z) + c = 0.
// All of it times any real number but 0 stands for the same circle: so whole
// numbers do, and nothing is divided till the circle is told.
type form struct {
	a *big.Int
	b long
	c *big.Int
}

// formOf is for numbers that may be; what they make need not be a circle. They
// are taken times a number above 0, so that sides stay what they are.
func formOf(c api.Circle) form {
	l := wholes(c.A, c.B.Re, c.B.Im, c.C)
	return form{a: l[0], b: long{re: l[1], im: l[2]}, c: l[3]}
}

func realLine() form { return form{a: big.NewInt(0), b: unitUp(), c: big.NewInt(0)} }

func (f form) conj() form { return form{a: f.a, b: f.b.conj(), c: f.c} }

func (f form) power() *big.Int { return minus(f.b.norm(), times(f.a, f.c)) }

func (f form) empty() bool { return f.power().Sign() <= 0 }

// unit is the number that a circle's one form has as 1.
func (f form) unit() *big.Int {
	for _, n := range [2]*big.Int{f.a, f.b.re} {
		if n.Sign() != 0 {
			return n
		}
	}
	return f.b.im
}

// between is linear in p's numbers, and in the conjugates of q's; with p and q
// the same it is the form's value there, a real one.
func (f form) between(p, q pair) long {
	first := p[0].scaled(f.a).plus(p[1].times(f.b.conj()))
	second := p[0].times(f.b).plus(p[1].scaled(f.c))
	return first.times(q[0].conj()).plus(second.times(q[1].conj()))
}

func (f form) at(p pair) *big.Int { return f.between(p, p).re }

// side is for points that may be, and circles as they were taken.
func (f form) side(p api.Point) int {
	switch {
	case p.Inf:
		return f.a.Sign()
	default:
		return f.at(pairOf(p)).Sign()
	}
}

// image answers what m makes of the circle. On it are the w that the way back
// takes to the circle's points: it takes w to p w + q, p and q being its two
// columns, so that the new numbers are what the form has at p, at q, and
// between them.
func (f form) image(m matrix) form {
	if m.turns {
		f = f.conj()
	}
	p, q := m.back()
	return form{a: f.at(p), b: f.between(p, q), c: f.at(q)}
}

// made answers the circle, if the form stands for one.
func (f form) made() (api.Circle, api.Errno) {
	if f.empty() {
		return api.Circle{}, api.ErrEmpty
	}
	return f.told()
}

// told wants a form that stands for a circle.
func (f form) told() (api.Circle, api.Errno) {
	unit, parts := f.unit(), [4]api.Frac{}
	for k, n := range [4]*big.Int{f.a, f.b.re, f.b.im, f.c} {
		part, e := lowest(n, unit)
		if e != api.OK {
			return api.Circle{}, e
		}
		parts[k] = part
	}
	return api.Circle{A: parts[0], B: api.Gauss{Re: parts[1], Im: parts[2]}, C: parts[3]}, api.OK
}

// pair is a point by its two coordinates, the one over the other one, infinity
// if that is 0. Both times any number but 0 stand for the same point.
type pair [2]long

// pairOf is for points that may be. Of a number the second coordinate is real.
func pairOf(p api.Point) pair {
	if p.Inf {
		return pair{short(1), short(0)}
	}
	l := wholes(p.Z.Re, p.Z.Im, frac.Int(1))
	return pair{{re: l[0], im: l[1]}, {re: l[2], im: big.NewInt(0)}}
}

func (p pair) times(z long) pair { return pair{p[0].times(z), p[1].times(z)} }

func (p pair) det(q pair) long { return p[0].times(q[1]).minus(p[1].times(q[0])) }

// matrix is a map on its way, by its two columns, which are where infinity and
// 0 go. All of it times any number but 0 stands for the same map.
type matrix struct {
	inf, nought pair
	turns       bool
}

// matrixOf is for maps that may be.
func matrixOf(m api.Mob) matrix {
	l := wholes(m.A.Re, m.A.Im, m.B.Re, m.B.Im, m.C.Re, m.C.Im, m.D.Re, m.D.Im)
	return matrix{
		inf:    pair{{re: l[0], im: l[1]}, {re: l[4], im: l[5]}},
		nought: pair{{re: l[2], im: l[3]}, {re: l[6], im: l[7]}},
		turns:  m.Turns,
	}
}

// frame answers the matrix that sends infinity, 0 and 1 to three unlike points.
// Its columns are the first two points', each times what makes their sum the
// third one's.
func frame(three [3]api.Point) matrix {
	p, q, r := pairOf(three[0]), pairOf(three[1]), pairOf(three[2])
	return matrix{inf: p.times(r.det(q)), nought: q.times(p.det(r))}
}

// back answers the columns of the way back, of a matrix that turns without its
// turning.
func (m matrix) back() (inf, nought pair) {
	return pair{m.nought[1], m.inf[1].neg()}, pair{m.nought[0].neg(), m.inf[0]}
}
