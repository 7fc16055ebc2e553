package descartes

import (
	"math/big"

	"tracery/api"
)

// long is a whole complex number of any length.
type long struct {
	re, im *big.Int
}

func (z long) plus(w long) long { return long{re: plus(z.re, w.re), im: plus(z.im, w.im)} }

func (z long) minus(w long) long { return z.plus(w.neg()) }

func (z long) neg() long { return long{re: opposite(z.re), im: opposite(z.im)} }

func (z long) conj() long { return long{re: z.re, im: opposite(z.im)} }

func (z long) scaled(by *big.Int) long { return long{re: times(z.re, by), im: times(z.im, by)} }

func (z long) dot(w long) *big.Int { return plus(times(z.re, w.re), times(z.im, w.im)) }

func (z long) norm() *big.Int { return z.dot(z) }

func (z long) times(w long) long {
	turned := long{re: z.im, im: z.re}
	return long{re: z.conj().dot(w), im: turned.dot(w)}
}

// wholes answers fractions that may be, all times the least number above 0 that
// makes each of them whole.
func wholes(l ...api.Frac) []*big.Int {
	by := big.NewInt(1)
	for _, x := range l {
		den := bigOf(x.Den)
		by = times(by, quotient(den, new(big.Int).GCD(nil, nil, by, den)))
	}
	numbers := make([]*big.Int, 0, len(l))
	for _, x := range l {
		numbers = append(numbers, times(bigOf(x.Num), quotient(by, bigOf(x.Den))))
	}
	return numbers
}

// lowest answers num over den, which is not 0, in lowest terms. It is the one
// place that refuses a number for its length.
func lowest(num, den *big.Int) (api.Frac, api.Errno) {
	r := new(big.Rat).SetFrac(num, den)
	x := api.Frac{Num: wholeOf(r.Num()), Den: wholeOf(r.Denom())}
	if len(x.Num.Mag) > api.MaxWhole || len(x.Den.Mag) > api.MaxWhole {
		return api.Frac{}, api.ErrBig
	}
	return x, api.OK
}

// rootOf answers the root of a square, which n need not be; n is not below 0.
func rootOf(n *big.Int) (root *big.Int, exact bool) {
	root = new(big.Int).Sqrt(n)
	return root, square(root).Cmp(n) == 0
}

func bigOf(a api.Whole) *big.Int {
	n := new(big.Int).SetBytes([]byte(a.Mag))
	if a.Neg {
		return opposite(n)
	}
	return n
}

func wholeOf(n *big.Int) api.Whole { return api.Whole{Neg: n.Sign() < 0, Mag: string(n.Bytes())} }

func plus(a, b *big.Int) *big.Int { return new(big.Int).Add(a, b) }

func minus(a, b *big.Int) *big.Int { return new(big.Int).Sub(a, b) }

func times(a, b *big.Int) *big.Int { return new(big.Int).Mul(a, b) }

func quotient(a, b *big.Int) *big.Int { return new(big.Int).Quo(a, b) }

func double(a *big.Int) *big.Int { return plus(a, a) }

func square(a *big.Int) *big.Int { return times(a, a) }

func opposite(a *big.Int) *big.Int { return new(big.Int).Neg(a) }
