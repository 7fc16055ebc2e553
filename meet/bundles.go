package meet

import (
	"math/big"

	"tracery/api"
)

// Bundle tells whether three circles are of one bundle.
func Bundle(c, d, e api.Circle) (bool, api.Errno) {
	l, wrong := taken(c, d, e)
	if wrong != api.OK {
		return false, wrong
	}
	for _, n := range across(l[0], l[1], l[2]).parts() {
		if n.Sign() != 0 {
			return false, api.OK
		}
	}
	return true, api.OK
}

// Across answers the circle that is upright on three.
func Across(c, d, e api.Circle) (api.Circle, api.Errno) {
	l, wrong := taken(c, d, e)
	if wrong != api.OK {
		return api.Circle{}, wrong
	}
	return across(l[0], l[1], l[2]).made()
}

// across answers the form whose product with each of the three is 0; all of it
// is 0, if they are of one bundle. What parts come to 0 with each one's are the
// minors; a product goes crosswise, by half of A C' + A' C.
func across(f, g, h form) form {
	rows, l := [3][4]*big.Int{f.parts(), g.parts(), h.parts()}, [4]*big.Int{}
	for k := range l {
		l[k] = minor(rows, k)
	}
	return form{flat(opposite(double(l[3]))), {re: l[1], im: l[2]}, flat(opposite(double(l[0])))}
}

// minor answers the determinant of the rows without one column, its sign
// changing from column to column.
func minor(rows [3][4]*big.Int, without int) *big.Int {
	det := new(big.Int)
	i, j, k := (without+1)%4, (without+2)%4, (without+3)%4
	for range 3 {
		area := minus(times(rows[1][j], rows[2][k]), times(rows[1][k], rows[2][j]))
		det = plus(det, times(rows[0][i], area))
		i, j, k = j, k, i
	}
	if without%2 == 1 {
		return opposite(det)
	}
	return det
}
