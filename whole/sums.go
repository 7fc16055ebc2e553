package whole

import "tracery/api"

// Add answers the sum.
func Add(a, b api.Whole) (api.Whole, api.Errno) {
	if x, y, ok := short(a, b); ok {
		return Of(x + y), api.OK
	}
	return Sum(a, b)
}

// Sub answers a less b.
func Sub(a, b api.Whole) (api.Whole, api.Errno) {
	if x, y, ok := short(a, b); ok {
		return Of(x - y), api.OK
	}
	if Check(b) != api.OK {
		return zero(), api.ErrArg
	}
	return Sum(a, opposite(b))
}

// Mul answers the product.
func Mul(a, b api.Whole) (api.Whole, api.Errno) {
	if x, y, ok := short(a, b); ok {
		return Of(x * y), api.OK
	}
	if checkAll(a, b) != api.OK {
		return zero(), api.ErrArg
	}
	return made(a.Neg != b.Neg, product(digitsOf(a.Mag), digitsOf(b.Mag)))
}

// Sum answers the sum of all.
func Sum(l ...api.Whole) (api.Whole, api.Errno) {
	if checkAll(l...) != api.OK {
		return zero(), api.ErrArg
	}
	// What is above 0 and what is below are summed each for itself, so that
	// a short number costs no more than its own digits, whatever the sum is.
	var above, below []uint32
	for _, a := range l {
		if a.Neg {
			below = addTo(below, digitsOf(a.Mag))
		} else {
			above = addTo(above, digitsOf(a.Mag))
		}
	}
	if cmpDigits(above, below) < 0 {
		return made(true, takeFrom(below, above))
	}
	return made(false, takeFrom(above, below))
}

// short answers both numbers, if they may be and have so few bytes that their
// product, and all else that is reckoned of them, is an int64. Most numbers
// are such, and need no digits then.
func short(a, b api.Whole) (x, y int64, ok bool) {
	if len(a.Mag)+len(b.Mag) >= wordBytes {
		return 0, 0, false
	}
	x, okX := Small(a)
	y, okY := Small(b)
	return x, y, okX && okY
}
