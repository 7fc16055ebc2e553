package whole

func gcdWords(a, b uint64) uint64 {
	for b > 0 {
		a, b = b, a%b
	}
	return a
}

// gcdDigits uses up what it is handed.
func gcdDigits(a, b []uint32) []uint32 {
	if cmpDigits(a, b) < 0 {
		a, b = b, a
	}
	for len(b) > 2 {
		f, some := foresee(a, b)
		if some {
			a, b = f.both(a, b)
			continue
		}
		_, rest := divide(a, b)
		a, b = b, rest
	}
	if len(b) == 0 {
		return a
	}
	_, rest := divide(a, b)
	return digitsOfWord(gcdWords(word(b), word(rest)))
}

// factors say what several divisions with rest, each of the last two numbers
// by one another, come to: the next two are a1 a + b1 b and a2 a + b2 b. Their
// magnitudes are below 2^31.
type factors struct {
	a1, b1, a2, b2 int64
}

// foresee tells what the divisions come to that the highest 62 bits of a, and
// b's bits in the same places, settle already; some is false, if none is. It
// wants a not less than b, and at least three digits of a. (So it was found by
// Lehmer. The loop's condition is Collins's: while it holds, what is cut off
// below those bits changes no quotient.)
func foresee(a, b []uint32) (f factors, some bool) {
	from := bitsOf(a) - 62
	if from >= bitsOf(b) {
		return factors{}, false
	}
	x, y := wordAt(a, from), wordAt(b, from)
	// The signs change from step to step: just the magnitudes are kept.
	var a1, a2, a3 uint64 = 0, 1, 0
	var b1, b2, b3 uint64 = 0, 0, 1
	sign := int64(-1)
	for y >= b3 && x-y >= b2+b3 {
		q := x / y
		x, y = y, x%y
		a1, a2, a3 = a2, a3, a2+q*a3
		b1, b2, b3 = b2, b3, b2+q*b3
		sign = -sign
	}
	f = factors{a1: sign * int64(a1), b1: -sign * int64(b1), a2: -sign * int64(a2), b2: sign * int64(b2)}
	return f, b1 > 0
}

// both puts the next two numbers in the places of a and b.
func (f factors) both(a, b []uint32) (x, y []uint32) {
	for len(b) < len(a) {
		b = append(b, 0)
	}
	// Two terms of unlike signs, each below 2^63 by more than a carry.
	var first, second int64
	for i := range a {
		p, q := int64(a[i]), int64(b[i])
		first += f.a1 * p
		first += f.b1 * q
		second += f.a2 * p
		second += f.b2 * q
		a[i], b[i] = uint32(first), uint32(second)
		first >>= digitBits
		second >>= digitBits
	}
	return trim(a), trim(b)
}
