package chains

import (
	"math/big"

	"tracery/api"
	"tracery/frac"
)

// Knife answers the row of a shoemaker's knife.
func Knife(x api.Frac) ([4]api.Disk, api.Errno) {
	if !inside(x) {
		return [4]api.Disk{}, api.ErrArg
	}
	return knife(x).told()
}

// Height answers how high the centre of the knife's disk n is, and its radius.
func Height(x api.Frac, n int) (height, radius api.Frac, e api.Errno) {
	if !inside(x) || !inReach(n) {
		return api.Frac{}, api.Frac{}, api.ErrArg
	}
	f := knife(x)
	d := f.at(n)
	if height, e = lowest(d[im], d[bend]); e != api.OK {
		return api.Frac{}, api.Frac{}, e
	}
	if radius, e = lowest(f.under, d[bend]); e != api.OK {
		return api.Frac{}, api.Frac{}, e
	}
	return height, radius, api.OK
}

// inside tells whether the fraction may be, and is above 0 and below 1.
func inside(x api.Frac) bool {
	order, e := frac.Cmp(x, frac.Int(1))
	return e == api.OK && order < 0 && frac.Sign(x) > 0
}

// knife answers the row of the knife of p / q, all its numbers over p (q - p).
// No disk is told on the way, since one may be too big where a height is not.
func knife(x api.Frac) lane {
	p, q := bigOf(x.Num), bigOf(x.Den)
	rest, none := minus(q, p), new(big.Int)
	under := times(p, rest)
	f := lane{
		disks: [4]numbers{
			rail:      {bend: opposite(double(under)), re: opposite(under), im: none, co: none},
			otherRail: {bend: double(times(q, rest)), re: under, im: none, co: none},
			first:     {bend: double(times(p, q)), re: times(p, plus(p, q)), im: none, co: double(square(p))},
		},
		under: under,
	}
	// All three Mids are real: so what has the Mid 2 i, and nothing else, has the
	// product 0 with each of the three, -4 with itself; their sum has 1 and 3.
	// Both together make a disk that touches all three.
	above := numbers{bend: none, re: none, im: double(under), co: none}
	f.disks[second] = f.rails().plus(f.disks[first]).plus(above)
	return f
}
