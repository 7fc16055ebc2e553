package descartes

import (
	"cmp"
	"math/big"

	"tracery/api"
	"tracery/frac"
	"tracery/gauss"
)

// Fourth answers the two disks that touch three.
func Fourth(a, b, c api.Disk) (api.Disk, api.Disk, api.Errno) {
	switch {
	case !allMay(a, b, c):
		return api.Disk{}, api.Disk{}, api.ErrArg
	case !touching(a, b, c):
		return api.Disk{}, api.Disk{}, api.ErrTouch
	}
	f, g, h := formOf(a), formOf(b), formOf(c)
	// The sum of all three has with each of them the product 1, with itself 3;
	// what is upright on all three has 0 and -4: so both together make a disk.
	sum, up := f.plus(g).plus(h), upright(f, g, h)
	x, e := sum.plus(up).disk()
	if e != api.OK {
		return api.Disk{}, api.Disk{}, e
	}
	y, e := sum.plus(up.neg()).disk()
	if e != api.OK {
		return api.Disk{}, api.Disk{}, e
	}
	if order(x, y) > 0 {
		x, y = y, x
	}
	return x, y, api.OK
}

// order is for disks that may be: the greater Bend comes first, the lesser of
// the other numbers.
func order(x, y api.Disk) int {
	bends, _ := frac.Cmp(y.Bend, x.Bend)
	mids, _ := gauss.Cmp(x.Mid, y.Mid)
	cos, _ := frac.Cmp(x.Co, y.Co)
	return cmp.Or(bends, mids, cos)
}

// upright answers the form whose product with each of three disks that touch
// each other is 0, and with itself -4; its opposite is such, too. What numbers
// come to 0 with those of each one are the minors; a product goes crosswise, by
// half of Bend Co' + Bend' Co.
func upright(f, g, h form) form {
	rows := [3][4]*big.Int{f.parts, g.parts, h.parts}
	return form{
		parts: [4]*big.Int{
			bend: double(minor(rows, co)),
			re:   opposite(minor(rows, re)),
			im:   opposite(minor(rows, im)),
			co:   double(minor(rows, bend)),
		},
		under: double(times(f.under, times(g.under, h.under))),
	}
}

// minor answers the determinant of the rows without one column, its sign
// changing from column to column.
func minor(rows [3][4]*big.Int, without int) *big.Int {
	s := newSum()
	i, j, k := (without+1)%4, (without+2)%4, (without+3)%4
	for range 3 {
		s.add(1, rows[0][i], minus(times(rows[1][j], rows[2][k]), times(rows[1][k], rows[2][j])))
		i, j, k = j, k, i
	}
	if without%2 == 1 {
		return opposite(s.total)
	}
	return s.total
}
