package cplx

import (
	"math"

	"tracery/api"
)

// Abs: P5.3.
func Abs(z complex128) float64 {
	a, b := math.Abs(real(z)), math.Abs(imag(z))
	switch {
	case infinite(a) || infinite(b):
		return math.Inf(1)
	case isNaN(a) || isNaN(b):
		return math.NaN()
	case a == 0 && b == 0:
		return 0
	case a < b:
		return longer(b, a)
	}
	return longer(a, b)
}

// longer divides by the greater one first, lest its square be too great.
func longer(m, n float64) float64 {
	q := n / m
	return float64(m * math.Sqrt(1+float64(q*q)))
}

// Sqrt: P5.4.
func Sqrt(z complex128) (complex128, api.Errno) {
	a, b := real(z), imag(z)
	if !Finite(z) {
		return 0, api.ErrFloat
	}
	if z == 0 {
		return complex(0, b), api.OK
	}
	r := Abs(z)
	if a >= 0 {
		t := math.Sqrt(float64(0.5*r) + float64(0.5*a))
		return complex(t, b/float64(2*t)), api.OK
	}
	t := math.Sqrt(float64(0.5*r) - float64(0.5*a))
	return complex(math.Abs(b)/float64(2*t), math.Copysign(t, b)), api.OK
}
