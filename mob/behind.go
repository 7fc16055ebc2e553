package mob

import (
	"slices"

	"tracery/api"
)

// Compose answers the first map behind the second one, and so on.
func Compose(l ...api.Mob) (api.Mob, api.Errno) {
	if len(l) > api.MaxList {
		return api.Mob{}, api.ErrLong
	}
	for _, m := range l {
		if e := Check(m); e != api.OK {
			return api.Mob{}, e
		}
	}
	out, e := One(), api.OK
	for _, m := range slices.Backward(l) {
		// The last ones are told each time, since it is they that may be refused.
		if out, e = behind(m, out); e != api.OK {
			return api.Mob{}, e
		}
	}
	return out, api.OK
}

// behind is for maps that may be.
func behind(m, n api.Mob) (api.Mob, api.Errno) {
	switch One() {
	case m:
		return n, api.OK
	case n:
		return m, api.OK
	}
	return matrixOf(m).behind(matrixOf(n)).told()
}

// Inverse answers the map that undoes m.
func Inverse(m api.Mob) (api.Mob, api.Errno) {
	w, e := taken(m)
	if e != api.OK {
		return api.Mob{}, e
	}
	return w.inverse().told()
}

// Power answers the map, done n times.
func Power(m api.Mob, n int) (api.Mob, api.Errno) {
	w, e := taken(m)
	if e != api.OK || n < -api.MaxPower || n > api.MaxPower {
		return api.Mob{}, api.ErrArg
	}
	if n < 0 {
		w = w.inverse()
		n *= -1
	}
	if !w.staysShort(n) {
		return oneByOne(w, n)
	}
	out := matrixOf(One())
	for mask := n; mask > 0; mask >>= 1 {
		if mask&1 == 1 {
			out = out.behind(w)
		}
		w = w.behind(w)
	}
	return out.told()
}

// oneByOne answers the n-th power, if none up to it is too big: so each is told.
func oneByOne(m matrix, n int) (api.Mob, api.Errno) {
	powers := []api.Mob{One()}
	for len(powers) <= n {
		next, e := m.behind(matrixOf(powers[len(powers)-1])).told()
		if e != api.OK {
			return api.Mob{}, e
		}
		if next == One() { // from here on all come again
			break
		}
		powers = append(powers, next)
	}
	return powers[n%len(powers)], api.OK
}

// Order answers how often m must be done to move nothing, 0 if no number does.
func Order(m api.Mob) (int, api.Errno) {
	w, e := taken(m)
	if e != api.OK {
		return 0, e
	}
	if m.Turns { // done an odd number of times it turns, and so moves something
		return 2 * w.behind(w).order(), api.OK
	}
	return w.order(), api.OK
}
