package descartes

import (
	"math/big"

	"tracery/api"
	"tracery/frac"
	"tracery/mob"
)

// Side tells on which side of the disk's edge the point is.
func Side(d api.Disk, p api.Point) (int, api.Errno) {
	if !allMay(d) || !pointMay(p) {
		return 0, api.ErrArg
	}
	return formOf(d).twice(spotOf(p)).Sign(), api.OK
}

// Product answers the product of two disks.
func Product(a, b api.Disk) (api.Frac, api.Errno) {
	if !allMay(a, b) {
		return api.Frac{}, api.ErrArg
	}
	f, g := formOf(a), formOf(b)
	return lowest(f.twice(g), double(times(f.under, g.under)))
}

// Touch tells whether each disk touches each other one.
func Touch(l ...api.Disk) (bool, api.Errno) {
	switch {
	case !allMay(l...):
		return false, api.ErrArg
	case len(l) > api.MaxTouch:
		return false, api.ErrLong
	}
	return touching(l...), api.OK
}

// Apart tells whether two disks have no point in common but such of both edges.
func Apart(a, b api.Disk) (bool, api.Errno) {
	if !allMay(a, b) {
		return false, api.ErrArg
	}
	f, g := formOf(a), formOf(b)
	both := f.plus(g)
	return f.toOne(g) >= 0 && both.parts[bend].Sign() >= 0 && both.parts[co].Sign() >= 0, api.OK
}

// Kiss answers the point in which two disks touch.
func Kiss(a, b api.Disk) (api.Point, api.Errno) {
	switch {
	case !allMay(a, b):
		return api.Point{}, api.ErrArg
	case !touching(a, b):
		return api.Point{}, api.ErrTouch
	}
	return formOf(a).plus(formOf(b)).point()
}

// touching is for disks that may be. No more than four touch each other, so
// that of many some of the first ones do not.
func touching(l ...api.Disk) bool {
	for k, d := range l {
		for _, c := range l[:k] {
			if formOf(c).toOne(formOf(d)) != 0 || c == out(d) {
				return false
			}
		}
	}
	return true
}

// point is for two disks together that touch: these are a disk without a
// radius, about the point.
func (f form) point() (api.Point, api.Errno) {
	if f.parts[bend].Sign() == 0 {
		return api.Point{Inf: true}, api.OK
	}
	x, e := lowest(f.parts[re], f.parts[bend])
	if e != api.OK {
		return api.Point{}, e
	}
	y, e := lowest(f.parts[im], f.parts[bend])
	if e != api.OK {
		return api.Point{}, e
	}
	return api.Point{Z: api.Gauss{Re: x, Im: y}}, api.OK
}

// spotOf is for points that may be.
func spotOf(p api.Point) form {
	if p.Inf {
		return spot(long{re: big.NewInt(1), im: new(big.Int)}, new(big.Int))
	}
	l := wholes(p.Z.Re, p.Z.Im, frac.Int(1))
	return spot(long{re: l[0], im: l[1]}, l[2])
}

// pointMay asks mob, which refuses just those points that may not be, since the
// map that moves nothing makes none too big.
func pointMay(p api.Point) bool {
	_, e := mob.At(mob.One(), p)
	return e == api.OK
}
