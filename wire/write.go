package wire

import (
	"math"
	"slices"

	"tracery/api"
)

// Number writes the form of a number.
func Number(n uint64) []byte {
	// The digits come lowest first, and only the last one written goes unmarked.
	digits := []byte{byte(n & 127)}
	for n >>= 7; n > 0; n >>= 7 {
		digits = append(digits, byte(n&127)|128)
	}
	slices.Reverse(digits)
	return digits
}

// Signed writes the form of a signed number.
func Signed(n int64) []byte {
	twice := uint64(n) << 1
	if n < 0 {
		// -2 n - 1 is 2 n with all bits turned: so the least number fits too.
		twice = ^twice
	}
	return Number(twice)
}

// Float writes the form of a float.
func Float(x float64) []byte {
	bits := math.Float64bits(x)
	if math.IsNaN(x) {
		bits = nanBits
	}
	form := make([]byte, 8)
	for i := range form {
		form[i] = byte(bits >> (56 - 8*i))
	}
	return form
}

// Complex writes the form of a complex number.
func Complex(z complex128) []byte {
	return append(Float(real(z)), Float(imag(z))...)
}

// Text writes the form of a text.
func Text(s string) []byte {
	return append(Number(uint64(len(s))), s...)
}

// Whole writes the form of a whole number; ErrArg, if it is not plain.
func Whole(w api.Whole) ([]byte, api.Errno) {
	if !plainWhole(w) {
		return nil, api.ErrArg
	}
	head := 2 * uint64(len(w.Mag))
	if w.Neg {
		head++
	}
	return append(Number(head), w.Mag...), api.OK
}

// Frac writes the form of a fraction; ErrArg, if it is not plain.
func Frac(x api.Frac) ([]byte, api.Errno) {
	if !plainFrac(x) {
		return nil, api.ErrArg
	}
	return putTwo(x.Num, x.Den, Whole)
}

// Gauss writes the form of an exact complex number; ErrArg, if it is not plain.
func Gauss(z api.Gauss) ([]byte, api.Errno) {
	return putTwo(z.Re, z.Im, Frac)
}

// Put writes the form of a list whose things are written by form.
func Put[T any](l []T, form func(T) []byte) ([]byte, api.Errno) {
	if form == nil {
		return nil, api.ErrNil
	}
	out := Number(uint64(len(l)))
	for _, x := range l {
		out = append(out, form(x)...)
	}
	return out, api.OK
}

func putTwo[T any](a, b T, form func(T) ([]byte, api.Errno)) ([]byte, api.Errno) {
	first, e := form(a)
	if e != api.OK {
		return nil, e
	}
	second, e := form(b)
	if e != api.OK {
		return nil, e
	}
	return append(first, second...), api.OK
}
