package flips

import (
	"math/big"

	"tracery/api"
)

// long is a whole complex number of any length. What its pointers lead to is
// shared, and so is never changed.
type long struct {
	re, im *big.Int
}

// wholes answers numbers that may be, all times the least number above 0 that
// makes each of them whole.
func wholes(l ...api.Gauss) []long {
	by := big.NewInt(1)
	for _, z := range l {
		by = multiple(multiple(by, bigOf(z.Re.Den)), bigOf(z.Im.Den))
	}
	scaled := func(x api.Frac) *big.Int { return times(bigOf(x.Num), over(by, bigOf(x.Den))) }
	numbers := make([]long, 0, len(l))
	for _, z := range l {
		numbers = append(numbers, long{re: scaled(z.Re), im: scaled(z.Im)})
	}
	return numbers
}

func (z long) plus(w long) long { return long{re: plus(z.re, w.re), im: plus(z.im, w.im)} }

func (z long) minus(w long) long { return long{re: minus(z.re, w.re), im: minus(z.im, w.im)} }

func (z long) times(w long) long {
	return long{
		re: minus(times(z.re, w.re), times(z.im, w.im)),
		im: plus(times(z.re, w.im), times(z.im, w.re)),
	}
}

func (z long) conj() long { return long{re: z.re, im: new(big.Int).Neg(z.im)} }

func (z long) norm() *big.Int { return plus(times(z.re, z.re), times(z.im, z.im)) }

func (z long) zero() bool { return z.re.Sign() == 0 && z.im.Sign() == 0 }

func (z long) same(w long) bool { return z.re.Cmp(w.re) == 0 && z.im.Cmp(w.im) == 0 }

// dividing answers the function that divides by w, which is not 0.
func dividing(w long) func(z long) (api.Gauss, api.Errno) {
	// What both parts of w share goes below the line as it is: in the norm it
	// would stand twice.
	shared := common(w.re, w.im)
	w = long{re: over(w.re, shared), im: over(w.im, shared)}
	factor, den := w.conj(), times(shared, w.norm())
	return func(z long) (api.Gauss, api.Errno) {
		num := z.times(factor)
		re, e := lowest(num.re, den)
		if e != api.OK {
			return api.Gauss{}, e
		}
		im, e := lowest(num.im, den)
		if e != api.OK {
			return api.Gauss{}, e
		}
		return api.Gauss{Re: re, Im: im}, api.OK
	}
}

// lowest answers num over den, which is above 0, in lowest terms. It is the one
// place that refuses a number for its length.
func lowest(num, den *big.Int) (api.Frac, api.Errno) {
	by := common(num, den)
	x := api.Frac{Num: wholeOf(over(num, by)), Den: wholeOf(over(den, by))}
	if len(x.Num.Mag) > api.MaxWhole || len(x.Den.Mag) > api.MaxWhole {
		return api.Frac{}, api.ErrBig
	}
	return x, api.OK
}

func bigOf(a api.Whole) *big.Int {
	n := new(big.Int).SetBytes([]byte(a.Mag))
	if a.Neg {
		n.Neg(n)
	}
	return n
}

func wholeOf(n *big.Int) api.Whole { return api.Whole{Neg: n.Sign() < 0, Mag: string(n.Bytes())} }

func plus(a, b *big.Int) *big.Int { return new(big.Int).Add(a, b) }

func minus(a, b *big.Int) *big.Int { return new(big.Int).Sub(a, b) }

func times(a, b *big.Int) *big.Int { return new(big.Int).Mul(a, b) }

func over(a, b *big.Int) *big.Int { return new(big.Int).Quo(a, b) }

func common(a, b *big.Int) *big.Int { return new(big.Int).GCD(nil, nil, a, b) }

// multiple answers the least number that both divide.
func multiple(a, b *big.Int) *big.Int { return times(a, over(b, common(a, b))) }
