package whole

import (
	"math/bits"

	"tracery/api"
)

// Pow answers a to the power n.
func Pow(a api.Whole, n int) (api.Whole, api.Errno) {
	if Check(a) != api.OK || n < 0 {
		return zero(), api.ErrArg
	}
	// With b bits the power is at least 2^((b - 1) n): what is far too long
	// is not reckoned.
	if b := Bits(a); b > 1 && n > (maxBits-1)/(b-1) {
		return zero(), api.ErrBig
	}
	factor, out := digitsOf(a.Mag), []uint32{1}
	for left := bits.Len(uint(n)); left > 0; {
		left--
		out = product(out, out)
		if n>>left&1 == 1 {
			out = product(out, factor)
		}
	}
	return made(a.Neg && n&1 == 1, out)
}

// Gcd answers the greatest number by which all can be divided.
func Gcd(l ...api.Whole) (api.Whole, api.Errno) {
	if checkAll(l...) != api.OK {
		return zero(), api.ErrArg
	}
	all := zero()
	for _, a := range l {
		all = gcd(all, a)
	}
	return all, api.OK
}

func gcd(a, b api.Whole) api.Whole {
	if len(a.Mag) <= wordBytes && len(b.Mag) <= wordBytes {
		return api.Whole{Mag: magOfWord(gcdWords(wordOf(a.Mag), wordOf(b.Mag)))}
	}
	return api.Whole{Mag: magOf(gcdDigits(digitsOf(a.Mag), digitsOf(b.Mag)))}
}

// Root answers the greatest root whose square is not above a, and what is left.
func Root(a api.Whole) (root, rest api.Whole, e api.Errno) {
	if Check(a) != api.OK {
		return zero(), zero(), api.ErrArg
	}
	if a.Neg {
		return zero(), zero(), api.ErrNone
	}
	d := digitsOf(a.Mag)
	r := rootDigits(d)
	// Neither can be refused: both have at most about half of a's bytes.
	root, _ = made(false, r)
	rest, _ = made(false, takeFrom(d, product(r, r)))
	return root, rest, api.OK
}

// Square answers the root of a square.
func Square(a api.Whole) (api.Whole, bool) {
	root, rest, e := Root(a)
	if e != api.OK || rest != zero() {
		return zero(), false
	}
	return root, true
}

// rootDigits goes on from the root of the upper half of the bits, made a
// little too great: from above Newton's steps never fall below the root, and
// few of them are left.
func rootDigits(d []uint32) []uint32 {
	n := bitsOf(d)
	if n <= 2*digitBits {
		return digitsOfWord(rootWord(word(d)))
	}
	half := n / 4
	above := addTo(rootDigits(shiftDown(d, 2*half)), []uint32{1})
	root := trim(shiftUp(above, half))
	for {
		quo, _ := divide(d, root)
		next := shiftDown(addTo(quo, root), 1)
		if cmpDigits(next, root) >= 0 {
			return root
		}
		root = next
	}
}

func rootWord(n uint64) uint64 {
	var root uint64
	for bit := uint64(1) << (digitBits - 1); bit > 0; bit >>= 1 {
		root |= bit
		if root*root > n {
			root ^= bit
		}
	}
	return root
}
