package invert

import "tracery/api"

// numbersOf answers A, B, C and D of a map that may be, all times one number.
func numbersOf(m api.Mob) [4]long {
	l := wholes(m.A.Re, m.A.Im, m.B.Re, m.B.Im, m.C.Re, m.C.Im, m.D.Re, m.D.Im)
	numbers := [4]long{}
	for k := range numbers {
		numbers[k] = long{re: l[2*k], im: l[2*k+1]}
	}
	return numbers
}

// behind answers the turning over f behind m, which may be. It goes by columns,
// which are where infinity and 0 go.
func (f form) behind(m api.Mob) (api.Mob, api.Errno) {
	n := numbersOf(m)
	inf, nought := f.turned(pair{n[0], n[2]}), f.turned(pair{n[1], n[3]})
	unit := inf[1] // what a map's one form has as 1
	if unit.zero() {
		unit = nought[1]
	}
	l, e := told(unit, inf[0], nought[0], inf[1], nought[1])
	if e != api.OK {
		return api.Mob{}, e
	}
	return api.Mob{A: l[0], B: l[1], C: l[2], D: l[3], Turns: !m.Turns}, api.OK
}

// mirrorsOf answers two forms, of which at least one stands for the circle, if
// m turns over one. The numbers of such a map are -conj(b), -c, a and b, all
// times some number. Its real part alone goes into the first form, its
// imaginary part, as all are taken times i, into the second one: so each form
// is that of the circle, times a real number, and one of these is not 0.
func mirrorsOf(m api.Mob) [2]form {
	n := numbersOf(m)
	turned := n
	for k, z := range n {
		turned[k] = z.quarter()
	}
	return [2]form{mirrorOf(n), mirrorOf(turned)}
}

func mirrorOf(n [4]long) form {
	return form{a: double(n[2].re), b: n[3].minus(n[0].conj()), c: opposite(double(n[1].re))}
}
