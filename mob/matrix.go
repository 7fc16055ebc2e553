package mob

import (
	"tracery/api"
	"tracery/sphere"
)

// vector is a point on its way: the one number over the other one, infinity if
// that is 0. Both times any number but 0 stand for the same point: so whole
// numbers do, and nothing is divided till the point is told.
type vector struct {
	over, under number
}

// vectorOf is for points that may be.
func vectorOf(p api.Point) vector {
	z, under := p.Z, one()
	if p.Inf {
		z, under = one(), zero()
	}
	l := wholes(z, under)
	return vector{over: l[0], under: l[1]}
}

func (p vector) plus(q vector) vector {
	return vector{over: p.over.plus(q.over), under: p.under.plus(q.under)}
}

func (p vector) times(z number) vector {
	return vector{over: p.over.times(z), under: p.under.times(z)}
}

func (p vector) conj() vector { return vector{over: p.over.conj(), under: p.under.conj()} }

// cross is 0 just if both stand for the same point.
func (p vector) cross(q vector) number { return p.over.times(q.under).minus(p.under.times(q.over)) }

func (p vector) told() (api.Point, api.Errno) {
	if p.under.zero() {
		return sphere.Infinity(), api.OK
	}
	z, e := dividing(p.under)(p.over)
	if e != api.OK {
		return api.Point{}, e
	}
	return api.Point{Z: z}, api.OK
}

// matrix is a map on its way, by its two columns, which are where infinity and
// 0 go. All of it times any number but 0 stands for the same map.
type matrix struct {
	inf, nought vector
	turns       bool
}

// matrixOf is for numbers that may be; what they make need not be a map.
func matrixOf(m api.Mob) matrix {
	l := wholes(m.A, m.B, m.C, m.D)
	return matrix{
		inf:    vector{over: l[0], under: l[2]},
		nought: vector{over: l[1], under: l[3]},
		turns:  m.Turns,
	}
}

func (m matrix) at(p vector) vector {
	if m.turns {
		p = p.conj()
	}
	return m.inf.times(p.over).plus(m.nought.times(p.under))
}

// behind goes by columns: the new ones are where m sends n's.
func (m matrix) behind(n matrix) matrix {
	return matrix{inf: m.at(n.inf), nought: m.at(n.nought), turns: m.turns != n.turns}
}

func (m matrix) inverse() matrix {
	inf := vector{over: m.nought.under, under: m.inf.under.neg()}
	nought := vector{over: m.nought.over.neg(), under: m.inf.over}
	if m.turns {
		inf, nought = inf.conj(), nought.conj()
	}
	return matrix{inf: inf, nought: nought, turns: m.turns}
}

func (m matrix) det() number { return m.inf.cross(m.nought) }

// unit is the number that a map's one form has as 1.
func (m matrix) unit() number {
	if m.inf.under.zero() {
		return m.nought.under
	}
	return m.inf.under
}

func (m matrix) numbers() [4]number {
	return [4]number{m.inf.over, m.nought.over, m.inf.under, m.nought.under}
}

// told wants a det that is not 0.
func (m matrix) told() (api.Mob, api.Errno) {
	divide := dividing(m.unit())
	parts := [4]api.Gauss{}
	for k, z := range m.numbers() {
		part, e := divide(z)
		if e != api.OK {
			return api.Mob{}, e
		}
		parts[k] = part
	}
	return api.Mob{A: parts[0], B: parts[1], C: parts[2], D: parts[3], Turns: m.turns}, api.OK
}

// staysShort tells whether no power up to the n-th can be too big, for the bits
// that m's numbers have. Each power has these and 2 more than the one ahead, as
// four products make a part; what is told of it, being products of two such
// numbers, has twice as many.
func (m matrix) staysShort(n int) bool {
	most := 0
	for _, z := range m.numbers() {
		most = max(most, z.bits())
	}
	return 2*n*(most+2) <= 8*api.MaxWhole
}

// order is for maps that do not turn, and as Order tells it.
func (m matrix) order() int {
	if m.still() {
		return 1
	}
	// In some place the map is z to r z, and its order that of r, or it is
	// z to z + 1, and never comes back. The square of the trace over the det
	// is r + 1 / r + 2: of a root of 1 real, so a fraction, from 0 on below 4,
	// and such fractions are 0, 1, 2 and 3 alone.
	trace := m.inf.over.plus(m.nought.under)
	square, det := trace.times(trace), m.det()
	for k, n := range [4]int{2, 3, 4, 6} {
		if square.same(det.times(short(int64(k)))) {
			return n
		}
	}
	return 0
}

func (m matrix) still() bool {
	return m.inf.under.zero() && m.nought.over.zero() && m.inf.over.same(m.nought.under)
}
