package gauss

import (
	"tracery/api"
	"tracery/frac"
)

// Neg answers the opposite.
func Neg(z api.Gauss) (api.Gauss, api.Errno) {
	return byParts(func(keep keeper) api.Gauss {
		return api.Gauss{Re: keep(frac.Neg(z.Re)), Im: keep(frac.Neg(z.Im))}
	})
}

// Conj answers the conjugate.
func Conj(z api.Gauss) (api.Gauss, api.Errno) {
	return byParts(func(keep keeper) api.Gauss {
		return api.Gauss{Re: keep(same(z.Re)), Im: keep(frac.Neg(z.Im))}
	})
}

// Turn answers i times z.
func Turn(z api.Gauss) (api.Gauss, api.Errno) {
	return byParts(func(keep keeper) api.Gauss {
		return api.Gauss{Re: keep(frac.Neg(z.Im)), Im: keep(same(z.Re))}
	})
}

// Add answers the sum.
func Add(z, w api.Gauss) (api.Gauss, api.Errno) {
	return byParts(func(keep keeper) api.Gauss {
		return api.Gauss{Re: keep(frac.Add(z.Re, w.Re)), Im: keep(frac.Add(z.Im, w.Im))}
	})
}

// Sub answers z less w.
func Sub(z, w api.Gauss) (api.Gauss, api.Errno) {
	return byParts(func(keep keeper) api.Gauss {
		return api.Gauss{Re: keep(frac.Sub(z.Re, w.Re)), Im: keep(frac.Sub(z.Im, w.Im))}
	})
}

// Scale answers z times a fraction.
func Scale(z api.Gauss, by api.Frac) (api.Gauss, api.Errno) {
	return byParts(func(keep keeper) api.Gauss {
		return api.Gauss{Re: keep(frac.Mul(z.Re, by)), Im: keep(frac.Mul(z.Im, by))}
	})
}

// Mul answers the product.
func Mul(z, w api.Gauss) (api.Gauss, api.Errno) {
	if !allMay(z, w) {
		return api.Gauss{}, api.ErrArg
	}
	return wideOf(z).times(wideOf(w)).told(part)
}

// Div answers z over w.
func Div(z, w api.Gauss) (api.Gauss, api.Errno) {
	switch {
	case !allMay(z, w):
		return api.Gauss{}, api.ErrArg
	case Zero(w):
		return api.Gauss{}, api.ErrZero
	}
	return wideOf(z).times(wideOf(w).inverse()).told(part)
}

// Norm answers the squared magnitude.
func Norm(z api.Gauss) (api.Frac, api.Errno) { return Dot(z, z) }

// Dot answers the real part of z's conjugate times w.
func Dot(z, w api.Gauss) (api.Frac, api.Errno) {
	if !allMay(z, w) {
		return api.Frac{}, api.ErrArg
	}
	product := wideOf(z).conj().times(wideOf(w))
	return part(product.re, product.den)
}

// Cross answers the imaginary part of z's conjugate times w.
func Cross(z, w api.Gauss) (api.Frac, api.Errno) {
	if !allMay(z, w) {
		return api.Frac{}, api.ErrArg
	}
	product := wideOf(z).conj().times(wideOf(w))
	return part(product.im, product.den)
}
