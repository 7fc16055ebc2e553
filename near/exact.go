package near

import (
	"math"
	"math/big"
	"math/bits"

	"tracery/api"
	"tracery/frac"
)

// Exact tells a float as a fraction.
func Exact(f float64) (api.Frac, api.Errno) {
	if !finite(f) {
		return api.Frac{}, api.ErrFloat
	}
	return exact(f), api.OK
}

// ExactComplex tells both parts so.
func ExactComplex(z complex128) (api.Gauss, api.Errno) {
	if !both(z, finite) {
		return api.Gauss{}, api.ErrFloat
	}
	return exactComplex(z), api.OK
}

// Gap tells how far the next float is.
func Gap(f float64) (api.Frac, api.Errno) {
	if !finite(f) {
		return api.Frac{}, api.ErrFloat
	}
	_, unit := parted(f)
	return twoFold(1, unit), api.OK
}

// exact is for finite floats.
func exact(f float64) api.Frac {
	x := twoFold(parted(f))
	x.Num.Neg = f < 0 // which -0 is not
	return x
}

// exactComplex is for finite floats.
func exactComplex(z complex128) api.Gauss {
	return api.Gauss{Re: exact(real(z)), Im: exact(imag(z))}
}

// parted takes a finite float's magnitude apart: it is digits times 2 to the
// power unit, and the next one has one digit more.
func parted(f float64) (digits uint64, unit int) {
	all := math.Float64bits(f) &^ signBit
	digits, exponent := all&(1<<tail-1), int(all>>tail)
	if exponent == 0 {
		return digits, least
	}
	return digits | 1<<tail, exponent - 1 + least
}

// joined puts the bits together of what parted takes apart. The first digit,
// which is not written, is what makes an exponent one greater than said here.
func joined(digits uint64, unit int) uint64 { return uint64(unit-least)<<tail + digits }

// twoFold answers digits times 2 to the power unit.
func twoFold(digits uint64, unit int) api.Frac {
	if digits == 0 {
		return frac.Int(0)
	}
	even := bits.TrailingZeros64(digits)
	digits, unit = digits>>even, unit+even
	num, den := new(big.Int).SetUint64(digits), big.NewInt(1)
	if unit < 0 {
		den = shifted(den, -unit)
	} else {
		num = shifted(num, unit)
	}
	return api.Frac{Num: wholeOf(num), Den: wholeOf(den)}
}
