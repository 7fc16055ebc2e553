package whole

import (
	"bytes"
	"cmp"
	"math/bits"
	"slices"

	"tracery/api"
)

// Inside of this package a magnitude's digits stand to the base 2^32, the
// lowest first, the highest one not 0 (unless it is said that it may be). A
// digit's carry, and the product of two, have room in a word twice as wide.
const (
	digitBits  = 32
	digitBytes = 4
	base       = 1 << digitBits

	wordBytes = 8
	maxBits   = 8 * api.MaxWide
)

func digitsOf(mag string) []uint32 {
	d := make([]uint32, (len(mag)+digitBytes-1)/digitBytes)
	for i := range len(mag) {
		place := (len(mag) - 1 - i) / digitBytes
		d[place] <<= 8
		d[place] |= uint32(mag[i])
	}
	return d
}

func magOf(d []uint32) string {
	mag := make([]byte, 0, digitBytes*len(d))
	for _, digit := range slices.Backward(d) {
		mag = append(mag, byte(digit>>24), byte(digit>>16), byte(digit>>8), byte(digit))
	}
	return string(bytes.TrimLeft(mag, "\x00"))
}

// made is the one place that refuses a result for its length.
func made(neg bool, d []uint32) (api.Whole, api.Errno) {
	d = trim(d)
	if bitsOf(d) > maxBits {
		return zero(), api.ErrBig
	}
	return api.Whole{Neg: neg && len(d) > 0, Mag: magOf(d)}, api.OK
}

// wordOf is for magnitudes of at most eight bytes.
func wordOf(mag string) uint64 {
	var n uint64
	for i := range len(mag) {
		n <<= 8
		n |= uint64(mag[i])
	}
	return n
}

func magOfWord(n uint64) string {
	var mag [wordBytes]byte
	at := wordBytes
	for ; n > 0; n >>= 8 {
		at--
		mag[at] = byte(n)
	}
	return string(mag[at:])
}

func digitsOfWord(n uint64) []uint32 {
	return trim([]uint32{uint32(n), uint32(n >> digitBits)})
}

// word is for at most two digits.
func word(d []uint32) uint64 {
	if len(d) == 0 {
		return 0
	}
	return wordAt(d, 0)
}

// wordAt answers the 64 bits from the bit at on, which is among those of d.
func wordAt(d []uint32, at int) uint64 {
	d, skip := d[at/digitBits:], at%digitBits
	n := uint64(d[0]) >> skip
	if len(d) > 1 {
		n |= uint64(d[1]) << (digitBits - skip)
	}
	if len(d) > 2 {
		n |= uint64(d[2]) << (2*digitBits - skip)
	}
	return n
}

func trim(d []uint32) []uint32 {
	for len(d) > 0 && d[len(d)-1] == 0 {
		d = d[:len(d)-1]
	}
	return d
}

func bitsOf(d []uint32) int {
	if len(d) == 0 {
		return 0
	}
	return digitBits*(len(d)-1) + bits.Len32(d[len(d)-1])
}

func cmpDigits(a, b []uint32) int {
	if len(a) != len(b) {
		return cmp.Compare(len(a), len(b))
	}
	for i, digit := range slices.Backward(a) {
		if digit != b[i] {
			return cmp.Compare(digit, b[i])
		}
	}
	return 0
}

// addTo adds in the place of d, which may have noughts ahead.
func addTo(d, more []uint32) []uint32 {
	var wide uint64
	for i := 0; i < len(more) || wide > 0; i++ {
		if i == len(d) {
			d = append(d, 0)
		}
		wide += uint64(d[i])
		if i < len(more) {
			wide += uint64(more[i])
		}
		d[i] = uint32(wide)
		wide >>= digitBits
	}
	return d
}

// takeFrom subtracts in the place of d, which is not less than that.
func takeFrom(d, less []uint32) []uint32 {
	var owed uint64
	for i := 0; i < len(less) || owed > 0; i++ {
		if i < len(less) {
			owed += uint64(less[i])
		}
		wide := base + uint64(d[i]) - owed
		d[i] = uint32(wide)
		owed = 1 - wide>>digitBits
	}
	return trim(d)
}

// raise multiplies in the place of d by a digit, and adds one.
func raise(d []uint32, by, more uint32) []uint32 {
	wide := uint64(more)
	for i, digit := range d {
		wide += uint64(digit) * uint64(by)
		d[i] = uint32(wide)
		wide >>= digitBits
	}
	if wide > 0 {
		d = append(d, uint32(wide))
	}
	return d
}

func product(a, b []uint32) []uint32 {
	out := make([]uint32, len(a)+len(b))
	for i, by := range a {
		var wide uint64
		for j, digit := range b {
			wide += uint64(digit)*uint64(by) + uint64(out[i+j])
			out[i+j] = uint32(wide)
			wide >>= digitBits
		}
		out[i+len(b)] = uint32(wide)
	}
	return trim(out)
}

// shiftUp answers as many digits as can be needed: noughts may be ahead.
func shiftUp(d []uint32, n int) []uint32 {
	skip, by := n/digitBits, n%digitBits
	out := make([]uint32, skip+len(d)+1)
	var wide uint64
	for i, digit := range d {
		wide |= uint64(digit) << by
		out[skip+i] = uint32(wide)
		wide >>= digitBits
	}
	out[skip+len(d)] = uint32(wide)
	return out
}

func shiftDown(d []uint32, n int) []uint32 {
	skip, by := n/digitBits, n%digitBits
	if skip >= len(d) {
		return nil
	}
	out := make([]uint32, len(d)-skip)
	var wide uint64
	for i, digit := range slices.Backward(d[skip:]) {
		wide %= base
		wide <<= digitBits
		wide |= uint64(digit)
		out[i] = uint32(wide >> by)
	}
	return trim(out)
}
