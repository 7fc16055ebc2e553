package tiles

import (
	"math/big"

	"tracery/api"
	"tracery/frac"
	"tracery/sphere"
)

// pair is a point by its two coordinates, the one over the other one, infinity
// if that is 0. Both times any number but 0 stand for the same point.
type pair [2]long

func pairOf(p api.Point) pair {
	if p == sphere.Infinity() {
		return pair{flat(1), flat(0)}
	}
	l := wholes(p.Z.Re, p.Z.Im, frac.Int(1))
	return pair{{re: l[0], im: l[1]}, {re: l[2], im: new(big.Int)}}
}

func (p pair) light() light {
	z := p[0].times(p[1].conj())
	return light{p[0].norm(), double(z.re), opposite(double(z.im)), p[1].norm()}
}

// matrix is a map on its way, by its two columns, which are where infinity and
// 0 go. All of it times any number but 0 stands for the same map.
type matrix struct {
	inf, nought pair
	turns       bool
}

// matrixOf is for maps that may be.
func matrixOf(m api.Mob) matrix {
	l := wholes(m.A.Re, m.A.Im, m.B.Re, m.B.Im, m.C.Re, m.C.Im, m.D.Re, m.D.Im)
	return matrix{
		inf:    pair{{re: l[0], im: l[1]}, {re: l[4], im: l[5]}},
		nought: pair{{re: l[2], im: l[3]}, {re: l[6], im: l[7]}},
		turns:  m.Turns,
	}
}

func (m matrix) det() long {
	return m.inf[0].times(m.nought[1]).minus(m.inf[1].times(m.nought[0]))
}

func (m matrix) inverse() matrix {
	back := matrix{
		inf:    pair{m.nought[1], m.inf[1].neg()},
		nought: pair{m.nought[0].neg(), m.inf[0]},
		turns:  m.turns,
	}
	if m.turns {
		for _, p := range [2]*pair{&back.inf, &back.nought} {
			*p = pair{p[0].conj(), p[1].conj()}
		}
	}
	return back
}

// pull is what a map does to forms: of a form it makes the one whose value at
// each point has the sign that the form's value has where the map sends that
// point. Each of the new numbers is a sum of the old ones, each times a number.
type pull struct {
	rows [4][4]*big.Int
	most *big.Int // what the numbers of a new form share divides it
	rest *pull    // the same by remainders, once that is asked for
}

// pullOf goes by z to (a z + b) / (c z + d), and takes the form's value there
// times |c z + d|^2. By this and the way back a form comes again, times the
// determinant's norm: so what the numbers of a new form share divides that norm,
// if those of the old one share nothing.
func pullOf(m matrix) *pull {
	a, b, c, d := m.inf[0], m.nought[0], m.inf[1], m.nought[1]
	there, back := a.times(d.conj()), c.times(b.conj())
	mixed := [4]long{a.times(b.conj()), there.plus(back), there.minus(back).quarter(), c.times(d.conj())}
	p := &pull{rows: [4][4]*big.Int{0: m.inf.light(), 3: m.nought.light()}, most: m.det().norm()}
	for k, z := range mixed {
		if m.turns {
			z = z.conj()
		}
		p.rows[1][k], p.rows[2][k] = z.re, z.im
	}
	return p
}

// of leaves in what the new numbers share.
func (m *pull) of(f form) form {
	made := form{}
	for k, row := range m.rows {
		made[k] = dot(row, f)
	}
	return made
}
