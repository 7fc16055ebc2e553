package sphere

import (
	"math/big"

	"tracery/api"
)

// Chord answers the square of the straight distance on the ball.
func Chord(p, q api.Point) (api.Frac, api.Errno) {
	if !May(p) || !May(q) {
		return api.Frac{}, api.ErrArg
	}
	z, w := wideOf(p), wideOf(q)
	return ratio{
		num: times(big.NewInt(4), z.gap(w)),
		den: times(z.weight(), w.weight()),
	}.told()
}

// Nearest answers the place of the point that has the least chord to p.
func Nearest(p api.Point, l ...api.Point) (int, api.Errno) {
	if !May(p) {
		return 0, api.ErrArg
	}
	if e := listed(l...); e != api.OK {
		return 0, e
	}
	if len(l) == 0 {
		return 0, api.ErrNone
	}
	z := wideOf(p)
	place, least := 0, beyond()
points:
	for at, q := range l {
		// All chords are held against each other without what they share: the
		// 4, and p's own weight.
		w := wideOf(q)
		off := ratio{num: z.gap(w), den: w.weight()}
		switch {
		case q == p: // none is nearer
			place = at
			break points
		case off.cmp(least) < 0:
			place, least = at, off
		}
	}
	return place, api.OK
}
