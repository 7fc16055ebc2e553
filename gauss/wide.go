package gauss

import (
	"math/big"

	"tracery/api"
	"tracery/frac"
)

// wide is a number on its way: re and im, both over den, which is above 0. It
// has any length, and need not be in lowest terms. What the pointers lead to
// is shared, and so is never changed.
type wide struct {
	re, im, den *big.Int
}

// step makes one number of two.
type step func(z, w wide) wide

// wideOf is for numbers that may be.
func wideOf(z api.Gauss) wide {
	re, im, den := bigOf(z.Re.Num), bigOf(z.Im.Num), bigOf(z.Re.Den)
	if z.Re.Den == z.Im.Den {
		return wide{re: re, im: im, den: den}
	}
	other := bigOf(z.Im.Den)
	return wide{re: times(re, other), im: times(im, den), den: times(den, other)}
}

func (z wide) plus(w wide) wide {
	if z.den.Cmp(w.den) == 0 {
		return wide{re: plus(z.re, w.re), im: plus(z.im, w.im), den: z.den}
	}
	return wide{
		re:  plus(times(z.re, w.den), times(w.re, z.den)),
		im:  plus(times(z.im, w.den), times(w.im, z.den)),
		den: times(z.den, w.den),
	}
}

func (z wide) times(w wide) wide {
	return wide{
		re:  minus(times(z.re, w.re), times(z.im, w.im)),
		im:  plus(times(z.re, w.im), times(z.im, w.re)),
		den: times(z.den, w.den),
	}
}

func (z wide) conj() wide { return wide{re: z.re, im: new(big.Int).Neg(z.im), den: z.den} }

// inverse is for what is not 0.
func (z wide) inverse() wide {
	w := z.conj()
	return wide{
		re:  times(w.re, z.den),
		im:  times(w.im, z.den),
		den: plus(times(z.re, z.re), times(z.im, z.im)),
	}
}

// lowered answers the number in lowest terms, unless it is so long that to
// look for these costs more than it spares.
func (z wide) lowered() wide {
	if longer(z.den, 8*api.MaxWhole) {
		return z
	}
	by := common(common(z.den, z.re), z.im)
	if by.BitLen() == 1 {
		return z
	}
	return wide{re: over(z.re, by), im: over(z.im, by), den: over(z.den, by)}
}

// rest answers the number's three numbers less all that prime goes into them.
func (z wide) rest() wide {
	by := prime()
	return wide{re: modulo(z.re, by), im: modulo(z.im, by), den: modulo(z.den, by)}
}

// told answers the number whose parts are told by what is handed in.
func (z wide) told(tell func(num, den *big.Int) (api.Frac, api.Errno)) (api.Gauss, api.Errno) {
	return byParts(func(keep keeper) api.Gauss {
		return api.Gauss{Re: keep(tell(z.re, z.den)), Im: keep(tell(z.im, z.den))}
	})
}

// part answers num over den, of any length, in lowest terms.
func part(num, den *big.Int) (api.Frac, api.Errno) {
	if !longer(num, api.MaxWide) && !longer(den, api.MaxWide) {
		return frac.Of(wholeOf(num), wholeOf(den))
	}
	x, e := guess(num, den)
	if e == api.OK && times(bigOf(x.Num), den).Cmp(times(bigOf(x.Den), num)) != 0 {
		return api.Frac{}, api.ErrBig
	}
	return x, e
}

// prime is a prime number (Tuckerman's) of more than 16 MaxWhole + 1 bits.
func prime() *big.Int {
	one := big.NewInt(1)
	return minus(new(big.Int).Lsh(one, 19937), one)
}

// guess answers the one fraction that may be and that num over den can be,
// since both are the same modulo prime; ErrBig, if there is none. (Two of them
// would make a difference of two products, below prime, that prime divides.)
// It is found by Euclid's steps: Wang's way from a rest to a fraction.
//
// Den has an inverse: prime divides no den of a fraction, and no sum of two
// squares of what is shorter than prime, which is 3 modulo 4.
func guess(num, den *big.Int) (api.Frac, api.Errno) {
	last, factorOfLast := prime(), big.NewInt(0)
	inverse := new(big.Int).ModInverse(den, last)
	rest, factor := modulo(times(num, inverse), last), big.NewInt(1)
	for longer(rest, api.MaxWhole) {
		quo, next := new(big.Int).QuoRem(last, rest, new(big.Int))
		last, rest = rest, next
		factorOfLast, factor = factor, minus(factorOfLast, times(quo, factor))
	}
	return frac.Of(wholeOf(rest), wholeOf(factor))
}

func longer(n *big.Int, bytes int) bool { return n.BitLen() > 8*bytes }

func bigOf(a api.Whole) *big.Int {
	n := new(big.Int).SetBytes([]byte(a.Mag))
	if a.Neg {
		n.Neg(n)
	}
	return n
}

func wholeOf(n *big.Int) api.Whole { return api.Whole{Neg: n.Sign() < 0, Mag: string(n.Bytes())} }

func plus(a, b *big.Int) *big.Int { return new(big.Int).Add(a, b) }

func minus(a, b *big.Int) *big.Int { return new(big.Int).Sub(a, b) }

func times(a, b *big.Int) *big.Int { return new(big.Int).Mul(a, b) }

func over(a, b *big.Int) *big.Int { return new(big.Int).Quo(a, b) }

func modulo(a, b *big.Int) *big.Int { return new(big.Int).Mod(a, b) }

func common(a, b *big.Int) *big.Int { return new(big.Int).GCD(nil, nil, a, b) }

// root answers the greatest root whose square is not above n, and tells
// whether that is n. It wants what is not below 0.
func root(n *big.Int) (*big.Int, bool) {
	r := new(big.Int).Sqrt(n)
	return r, times(r, r).Cmp(n) == 0
}
