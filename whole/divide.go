package whole

import (
	"math/bits"
	"slices"

	"tracery/api"
)

// Div divides: the rest is from 0 up to, but not, b's magnitude.
func Div(a, b api.Whole) (quo, rest api.Whole, e api.Errno) {
	if checkAll(a, b) != api.OK {
		return zero(), zero(), api.ErrArg
	}
	if b == zero() {
		return zero(), zero(), api.ErrZero
	}
	if x, y, ok := short(a, b); ok {
		quo, rest = divShort(x, y)
		return quo, rest, api.OK
	}
	by := digitsOf(b.Mag)
	q, r := divide(digitsOf(a.Mag), by)
	if a.Neg && len(r) > 0 {
		q, r = addTo(q, []uint32{1}), takeFrom(by, r)
	}
	// Neither can be refused: where something is added to the quotient, b's
	// magnitude is at least 2.
	quo, _ = made(a.Neg != b.Neg, q)
	rest, _ = made(false, r)
	return quo, rest, api.OK
}

func divShort(a, b int64) (quo, rest api.Whole) {
	q, r := a/b, a%b
	switch {
	case r < 0 && b < 0:
		q, r = q+1, r-b
	case r < 0:
		q, r = q-1, r+b
	}
	return Of(q), Of(r)
}

// Shift answers a times 2 to the power n, rounded down.
func Shift(a api.Whole, n int) (api.Whole, api.Errno) {
	switch {
	case Check(a) != api.OK:
		return zero(), api.ErrArg
	case a == zero():
		return zero(), api.OK
	case n > maxBits-Bits(a):
		return zero(), api.ErrBig
	case n >= 0:
		return made(a.Neg, shiftUp(digitsOf(a.Mag), n))
	}
	// Below that nothing is left anyway, and n might have no opposite.
	n = -max(n, -maxBits)
	one := []uint32{1}
	if a.Neg {
		// Rounded down is away from 0 here.
		return made(true, addTo(shiftDown(takeFrom(digitsOf(a.Mag), one), n), one))
	}
	return made(false, shiftDown(digitsOf(a.Mag), n))
}

// divide answers new digits; b is not 0.
func divide(a, b []uint32) (quo, rest []uint32) {
	if cmpDigits(a, b) < 0 {
		return nil, slices.Clone(a)
	}
	if len(b) == 1 {
		quo = slices.Clone(a)
		left := cutBy(quo, b[0])
		return trim(quo), trim([]uint32{left})
	}
	// A divisor whose highest bit is set lets a digit be guessed well.
	lift := bits.LeadingZeros32(b[len(b)-1])
	rest = shiftUp(a, lift)
	quo = divideLong(rest, trim(shiftUp(b, lift)))
	return trim(quo), shiftDown(trim(rest), lift)
}

// cutBy divides in the place of d, which may have noughts ahead then, by a
// digit, and answers what is left.
func cutBy(d []uint32, by uint32) uint32 {
	var wide uint64
	for i, digit := range slices.Backward(d) {
		wide <<= digitBits
		wide |= uint64(digit)
		d[i] = uint32(wide / uint64(by))
		wide %= uint64(by)
	}
	return uint32(wide)
}

// divideLong leaves in rest what is left. It wants at least two digits of b,
// with the highest bit set, and as rest's first digit one below b's first.
func divideLong(rest, b []uint32) []uint32 {
	quo := make([]uint32, len(rest)-len(b))
steps:
	for at := len(quo) - 1; at >= 0; at-- {
		part := rest[at : at+len(b)+1]
		// The guess knows three digits alone: it may be one too great, if seldom.
		for guess := guessDigit(part, b); ; guess-- {
			if takeTimes(part, b, guess) {
				quo[at] = uint32(guess)
				continue steps
			}
			giveBack(part, b, guess)
		}
	}
	return quo
}

// guessDigit answers a digit, never too small, by which b goes into the part.
func guessDigit(part, b []uint32) uint64 {
	n := len(b)
	first, second := uint64(b[n-1]), uint64(b[n-2])
	wide := uint64(part[n])<<digitBits | uint64(part[n-1])
	guess, left := wide/first, wide%first
	for left < base && (guess >= base || guess*second > left<<digitBits|uint64(part[n-2])) {
		guess--
		left += first
	}
	return guess
}

// takeTimes subtracts d so many times, in place. It tells false where that
// goes below 0: the part is too great by a digit ahead of it then, which
// giveBack carries away.
func takeTimes(part, d []uint32, times uint64) bool {
	var owed uint64
	for i, digit := range d {
		owed += uint64(digit) * times
		wide := base + uint64(part[i]) - owed%base
		part[i] = uint32(wide)
		owed >>= digitBits
		owed += 1 - wide>>digitBits
	}
	wide := base + uint64(part[len(d)]) - owed
	part[len(d)] = uint32(wide)
	return wide >= base
}

func giveBack(part, d []uint32, times uint64) {
	var wide uint64
	for i, digit := range d {
		wide += uint64(digit)*times + uint64(part[i])
		part[i] = uint32(wide)
		wide >>= digitBits
	}
	wide += uint64(part[len(d)])
	part[len(d)] = uint32(wide)
}
