package hurwitz

import (
	"math/big"

	"tracery/api"
	"tracery/whole"
)

// integer is a whole complex number of any length. What the pointers lead to is
// shared, and so is never changed.
type integer struct {
	re, im *big.Int
}

func integerIs(re, im int64) integer { return integer{re: big.NewInt(re), im: big.NewInt(im)} }

func zero() integer { return integerIs(0, 0) }

func one() integer { return integerIs(1, 0) }

// units answers the powers of i, from 1 on.
func units() [4]integer {
	return [4]integer{integerIs(1, 0), integerIs(0, 1), integerIs(-1, 0), integerIs(0, -1)}
}

// integerOf is for numbers that are whole.
func integerOf(z api.Gauss) integer { return integer{re: bigOf(z.Re.Num), im: bigOf(z.Im.Num)} }

func (z integer) plus(w integer) integer {
	return integer{re: plus(z.re, w.re), im: plus(z.im, w.im)}
}

func (z integer) neg() integer { return integer{re: opposite(z.re), im: opposite(z.im)} }

func (z integer) conj() integer { return integer{re: z.re, im: opposite(z.im)} }

func (z integer) scaled(by *big.Int) integer {
	return integer{re: times(z.re, by), im: times(z.im, by)}
}

func (z integer) times(w integer) integer {
	return integer{re: z.conj().dot(w), im: plus(times(z.re, w.im), times(z.im, w.re))}
}

func (z integer) dot(w integer) *big.Int { return plus(times(z.re, w.re), times(z.im, w.im)) }

func (z integer) norm() *big.Int { return z.dot(z) }

func (z integer) isZero() bool { return z.re.Sign() == 0 && z.im.Sign() == 0 }

// bits answers how many bits the longer one of its parts has.
func (z integer) bits() int { return max(z.re.BitLen(), z.im.BitLen()) }

// turns answers which power of i brings z to its first place.
func (z integer) turns() int {
	re, im := z.re.Sign(), z.im.Sign()
	switch {
	case re >= 0 && im < 0:
		return 1
	case re < 0 && im <= 0:
		return 2
	case re <= 0 && im > 0:
		return 3
	}
	return 0
}

func (z integer) unit() integer { return units()[z.turns()] }

// nearest answers the nearest one to z over by, which is above 0.
func (z integer) nearest(by *big.Int) integer {
	return integer{re: rounded(z.re, by), im: rounded(z.im, by)}
}

// told is the one place that refuses a whole number for its length.
func (z integer) told() (api.Gauss, api.Errno) {
	re, im := wholeOf(z.re), wholeOf(z.im)
	if len(re.Mag) > api.MaxWhole || len(im.Mag) > api.MaxWhole {
		return api.Gauss{}, api.ErrBig
	}
	under := whole.Of(1)
	return api.Gauss{Re: api.Frac{Num: re, Den: under}, Im: api.Frac{Num: im, Den: under}}, api.OK
}

func toldBoth(z, w integer) (api.Gauss, api.Gauss, api.Errno) {
	first, wrong := z.told()
	second, e := w.told()
	if wrong != api.OK || e != api.OK {
		return api.Gauss{}, api.Gauss{}, api.ErrBig
	}
	return first, second, api.OK
}

// rounded answers the nearest whole number to a over by, of two the even one.
func rounded(a, by *big.Int) *big.Int {
	// What is half more is rounded down; where nothing is left of that, it lies
	// midway, and the upper one of both has been taken.
	near, rest := new(big.Int).DivMod(plus(double(a), by), double(by), new(big.Int))
	if rest.Sign() == 0 && near.Bit(0) == 1 {
		return minus(near, big.NewInt(1))
	}
	return near
}

func bigOf(a api.Whole) *big.Int {
	n := new(big.Int).SetBytes([]byte(a.Mag))
	if a.Neg {
		return opposite(n)
	}
	return n
}

func wholeOf(n *big.Int) api.Whole { return api.Whole{Neg: n.Sign() < 0, Mag: string(n.Bytes())} }

func plus(a, b *big.Int) *big.Int { return new(big.Int).Add(a, b) }

func minus(a, b *big.Int) *big.Int { return new(big.Int).Sub(a, b) }

func times(a, b *big.Int) *big.Int { return new(big.Int).Mul(a, b) }

func double(a *big.Int) *big.Int { return plus(a, a) }

func opposite(a *big.Int) *big.Int { return new(big.Int).Neg(a) }
