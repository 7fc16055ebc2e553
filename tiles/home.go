package tiles

import (
	"math/big"

	"tracery/api"
	"tracery/frac"
	"tracery/sphere"
)

// Home brings a point of the upper half plane home.
func Home(z api.Point) (api.Homed, api.Errno) {
	switch {
	case !sphere.May(z):
		return api.Homed{}, api.ErrArg
	case !upper(z):
		return api.Homed{}, api.ErrNone
	}
	w := travellerOf(z)
	w.slide()
	for w.insideUnit() {
		w.turn()
		w.slide()
	}
	if w.pastTop() {
		w.turn()
	}
	return w.told()
}

// AtHome tells whether a point is there.
func AtHome(z api.Point) (bool, api.Errno) {
	switch {
	case !sphere.May(z):
		return false, api.ErrArg
	case !upper(z):
		return false, api.OK
	}
	w := travellerOf(z)
	return w.away().Sign() == 0 && !w.insideUnit() && !w.pastTop(), api.OK
}

// upper tells whether a point that may be is one of the upper half plane.
func upper(z api.Point) bool { return z != sphere.Infinity() && frac.Sign(z.Z.Im) > 0 }

// traveller is a point of the upper half plane on its way home, with the map
// that led to it. It stands at (x + y i) / under; x x + y y is under times over,
// so that |z|^2 is over / under, and -1 / z has the same numbers, these two
// changed about and x negated: y stays on all the way, and nothing is divided.
type traveller struct {
	x, y, over, under *big.Int
	top, bottom       [2]*big.Int // the rows of the map's matrix
	turns             int
}

func travellerOf(z api.Point) *traveller {
	l := wholes(z.Z.Re, z.Z.Im, frac.Int(1))
	number, den := long{re: l[0], im: l[1]}, l[2]
	one, zero := big.NewInt(1), new(big.Int)
	return &traveller{
		x: times(number.re, den), y: times(number.im, den), over: number.norm(), under: times(den, den),
		top: [2]*big.Int{one, zero}, bottom: [2]*big.Int{zero, one},
	}
}

// insideUnit and pastTop are about |z| and 1: is it below, is it the same while
// the real part is above 0?

func (w *traveller) insideUnit() bool { return w.over.Cmp(w.under) < 0 }

func (w *traveller) pastTop() bool { return w.over.Cmp(w.under) == 0 && w.x.Sign() > 0 }

// away answers the whole number by which the real part is too great: that part
// and a half, rounded down, as Div does where it divides by what is above 0.
func (w *traveller) away() *big.Int {
	return new(big.Int).Div(plus(double(w.x), w.under), double(w.under))
}

func (w *traveller) slide() {
	n := w.away()
	x := minus(w.x, times(n, w.under))
	w.over = minus(w.over, times(n, plus(w.x, x)))
	w.x = x
	for k := range w.top {
		w.top[k] = minus(w.top[k], times(n, w.bottom[k]))
	}
}

func (w *traveller) turn() {
	w.x, w.over, w.under = opposite(w.x), w.under, w.over
	w.top, w.bottom = [2]*big.Int{opposite(w.bottom[0]), opposite(w.bottom[1])}, w.top
	w.turns++
}

func (w *traveller) told() (api.Homed, api.Errno) {
	at, e := told(w.under, w.x, w.y)
	if e != api.OK {
		return api.Homed{}, e
	}
	m, e := w.mob()
	if e != api.OK {
		return api.Homed{}, e
	}
	return api.Homed{Point: api.Point{Z: api.Gauss{Re: at[0], Im: at[1]}}, Map: m, Turns: w.turns}, api.OK
}

func (w *traveller) mob() (api.Mob, api.Errno) {
	unit := w.bottom[0] // what a map's one form has as 1
	if unit.Sign() == 0 {
		unit = w.bottom[1]
	}
	l, e := told(unit, w.top[0], w.top[1], w.bottom[0], w.bottom[1])
	if e != api.OK {
		return api.Mob{}, e
	}
	return api.Mob{A: flatOf(l[0]), B: flatOf(l[1]), C: flatOf(l[2]), D: flatOf(l[3])}, api.OK
}

func flatOf(x api.Frac) api.Gauss { return api.Gauss{Re: x, Im: frac.Int(0)} }
