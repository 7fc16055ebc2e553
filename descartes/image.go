package descartes

import (
	"tracery/api"
	"tracery/mob"
)

// Image answers the disk to which the map sends a disk.
func Image(m api.Mob, d api.Disk) (api.Disk, api.Errno) {
	if !allMay(d) || mob.Check(m) != api.OK {
		return api.Disk{}, api.ErrArg
	}
	w := matrixOf(m)
	size, exact := rootOf(w.det().norm())
	if !exact {
		return api.Disk{}, api.ErrNone
	}
	f := formOf(d)
	if m.Turns {
		f = f.conj()
	}
	return f.image(w).over(times(f.under, size)).disk()
}

// matrix is a map on its way, by its two rows, all of it times a number that
// makes it whole.
type matrix [2][2]long

// matrixOf is for maps that may be.
func matrixOf(m api.Mob) matrix {
	l := wholes(m.A.Re, m.A.Im, m.B.Re, m.B.Im, m.C.Re, m.C.Im, m.D.Re, m.D.Im)
	return matrix{
		{{re: l[0], im: l[1]}, {re: l[2], im: l[3]}},
		{{re: l[4], im: l[5]}, {re: l[6], im: l[7]}},
	}
}

func (m matrix) det() long { return m[0][0].times(m[1][1]).minus(m[0][1].times(m[1][0])) }

// image answers the four numbers that m makes of a disk's, times the size of
// m's determinant. A point's form is its two coordinates times their conjugates,
// and maps change the coordinates by rows; since they keep products, but for
// that factor, a disk's form goes as a point's does.
func (f form) image(m matrix) form {
	mid := f.between(m[0], m[1])
	f.parts[bend], f.parts[co] = f.between(m[1], m[1]).re, f.between(m[0], m[0]).re
	f.parts[re], f.parts[im] = mid.re, mid.im
	return f
}

// between takes the disk's numbers as a matrix, Co, Mid above conj(Mid), Bend,
// between the row x and the conjugate of the row y.
func (f form) between(x, y [2]long) long {
	first := x[0].scaled(f.parts[co]).plus(x[1].times(f.mid().conj()))
	second := x[0].times(f.mid()).plus(x[1].scaled(f.parts[bend]))
	return first.times(y[0].conj()).plus(second.times(y[1].conj()))
}
