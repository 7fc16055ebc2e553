package cplx

import "math"

// Add: P5.2.
func Add(z, w complex128) complex128 {
	return complex(real(z)+real(w), imag(z)+imag(w))
}

// Sub: P5.2.
func Sub(z, w complex128) complex128 {
	return complex(real(z)-real(w), imag(z)-imag(w))
}

// Mul: P5.2.
func Mul(z, w complex128) complex128 {
	a, b, c, d := real(z), imag(z), real(w), imag(w)
	return complex(float64(a*c)-float64(b*d), float64(a*d)+float64(b*c))
}

// Div: P5.2.
func Div(z, w complex128) complex128 {
	a, b, c, d := real(z), imag(z), real(w), imag(w)
	m := Abs2(w)
	return complex((float64(a*c)+float64(b*d))/m, (float64(b*c)-float64(a*d))/m)
}

// Neg: P5.2.
func Neg(z complex128) complex128 { return complex(turned(real(z)), turned(imag(z))) }

// Conj: P5.2.
func Conj(z complex128) complex128 { return complex(real(z), turned(imag(z))) }

// Turn: P5.2.
func Turn(z complex128) complex128 { return complex(turned(imag(z)), real(z)) }

// Scale: P5.2.
func Scale(z complex128, r float64) complex128 {
	return complex(float64(real(z)*r), float64(imag(z)*r))
}

// Dot: P5.2.
func Dot(z, w complex128) float64 {
	return float64(real(z)*real(w)) + float64(imag(z)*imag(w))
}

// Cross: P5.2.
func Cross(z, w complex128) float64 {
	return float64(real(z)*imag(w)) - float64(imag(z)*real(w))
}

// Abs2: P5.2.
func Abs2(z complex128) float64 { return Dot(z, z) }

// turned goes by the bits, since Go's words call -x the difference of 0 and x,
// which would make +0 of +0.
func turned(x float64) float64 {
	return math.Float64frombits(math.Float64bits(x) ^ 1<<63)
}
