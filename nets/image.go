package nets

import (
	"tracery/api"
	"tracery/gauss"
)

// Image is the net of the images.
func (n *Net) Image(m api.Mob) (*Net, api.Errno) {
	if !n.there() {
		return nil, api.ErrNil
	}
	w, may := matrixOf(m)
	if !may {
		return nil, api.ErrArg
	}
	image := blank(n.a, n.b)
	if m.Turns {
		turn(image.a)
		turn(image.b)
	}
	for at, p := range n.All() {
		q, e := w.at(pairOf(p)).told()
		if e != api.OK {
			return nil, e
		}
		image.rows[at[1]][at[0]] = q
	}
	return image, api.OK
}

// turn puts the conjugates for labels.
func turn(labels []api.Gauss) {
	for k, z := range labels {
		labels[k], _ = gauss.Conj(z)
	}
}

// matrix is a map by the images of infinity and of 0, all of whose numbers are
// multiplied by one number.
type matrix struct {
	inf, nought pair
	turns       bool
}

// matrixOf answers the map as it is reckoned with, if it may be.
func matrixOf(m api.Mob) (matrix, bool) {
	zero, one := gauss.Int(0, 0), gauss.Int(1, 0)
	inForm := m.C == one || m.C == zero && m.D == one
	if !inForm || !every(gauss.May, []api.Gauss{m.A, m.B, m.D}) {
		return matrix{}, false
	}
	l := wholes(m.A.Re, m.A.Im, m.B.Re, m.B.Im, m.C.Re, m.C.Im, m.D.Re, m.D.Im)
	w := matrix{
		inf:    pair{{re: l[0], im: l[1]}, {re: l[4], im: l[5]}},
		nought: pair{{re: l[2], im: l[3]}, {re: l[6], im: l[7]}},
		turns:  m.Turns,
	}
	return w, !w.inf.same(w.nought)
}

func (m matrix) at(p pair) pair {
	if m.turns {
		p = p.conj()
	}
	return m.inf.times(p[0]).plus(m.nought.times(p[1]))
}
