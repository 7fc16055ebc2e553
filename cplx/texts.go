package cplx

import (
	"math"
	"strings"

	"tracery/api"
)

const (
	digits  = "0123456789abcdef"
	width   = 16
	nanText = "nan"
)

// Text: P5.6.
func Text(z complex128) string { return text(real(z)) + "," + text(imag(z)) }

func text(x float64) string {
	if isNaN(x) {
		return nanText
	}
	var out [width]byte
	n := math.Float64bits(x)
	for k := width - 1; k >= 0; k-- {
		out[k] = digits[n%16]
		n /= 16
	}
	return string(out[:])
}

// Read: P5.6.
func Read(s string) (complex128, api.Errno) {
	// Without a comma nothing is left for the second part, and nothing is no text.
	first, second, _ := strings.Cut(s, ",")
	a, good := read(first)
	b, fine := read(second)
	if !good || !fine {
		return 0, api.ErrBits
	}
	return complex(a, b), api.OK
}

func read(s string) (float64, bool) {
	if s == nanText {
		return math.NaN(), true
	}
	if len(s) != width {
		return 0, false
	}
	var n uint64
	for k := range len(s) {
		d, known := worth(s[k])
		if !known {
			return 0, false
		}
		n = n*16 + d
	}
	x := math.Float64frombits(n)
	// A NaN has many bits, but one text.
	return x, !isNaN(x)
}

func worth(c byte) (uint64, bool) {
	switch {
	case '0' <= c && c <= '9':
		return uint64(c - '0'), true
	case 'a' <= c && c <= 'f':
		return uint64(c-'a') + 10, true
	}
	return 0, false
}
