package plane

import (
	"math/big"

	"tracery/api"
)

// long is a whole complex number of any length. What its pointers lead to is
// shared, and so is never changed.
type long struct {
	re, im *big.Int
}

func is(re, im int64) long { return long{re: big.NewInt(re), im: big.NewInt(im)} }

func flat(n *big.Int) long { return long{re: n, im: new(big.Int)} }

func (z long) zero() bool { return z.re.Sign() == 0 && z.im.Sign() == 0 }

func (z long) plus(w long) long { return long{re: plus(z.re, w.re), im: plus(z.im, w.im)} }

func (z long) minus(w long) long { return long{re: minus(z.re, w.re), im: minus(z.im, w.im)} }

func (z long) times(w long) long {
	return long{
		re: minus(times(z.re, w.re), times(z.im, w.im)),
		im: plus(times(z.re, w.im), times(z.im, w.re)),
	}
}

func (z long) scaled(by *big.Int) long { return long{re: times(z.re, by), im: times(z.im, by)} }

func (z long) neg() long { return long{re: opposite(z.re), im: opposite(z.im)} }

func (z long) conj() long { return long{re: z.re, im: opposite(z.im)} }

// dot and area are the two parts of z conj(w).

func (z long) dot(w long) *big.Int { return plus(times(z.re, w.re), times(z.im, w.im)) }

func (z long) area(w long) *big.Int { return minus(times(z.im, w.re), times(z.re, w.im)) }

func (z long) norm() *big.Int { return z.dot(z) }

// inverse answers a factor and a number above 0: to divide by z, which is not 0,
// is to multiply by the one and to divide by the other. What both parts of z
// share is divided by as it is: in the norm it would stand twice.
func (z long) inverse() (long, *big.Int) {
	shared := common(z.re, z.im)
	z = long{re: over(z.re, shared), im: over(z.im, shared)}
	return z.conj(), times(shared, z.norm())
}

// told answers all numbers of l over unit, which is not 0, if none of them is
// too long.
func told(unit long, l ...long) ([]api.Gauss, api.Errno) {
	factor, den := unit.inverse()
	numbers, e := make([]api.Gauss, 0, len(l)), api.OK
telling:
	for _, z := range l {
		num, parts := z.times(factor), [2]api.Frac{}
		for k, n := range [2]*big.Int{num.re, num.im} {
			if parts[k], e = lowest(n, den); e != api.OK {
				numbers = nil
				break telling
			}
		}
		numbers = append(numbers, api.Gauss{Re: parts[0], Im: parts[1]})
	}
	return numbers, e
}

// lowest answers num over den, which is above 0, in lowest terms. It is the one
// place that refuses a number for its length.
func lowest(num, den *big.Int) (api.Frac, api.Errno) {
	by := common(num, den)
	x := api.Frac{Num: wholeOf(over(num, by)), Den: wholeOf(over(den, by))}
	if len(x.Num.Mag) > api.MaxWhole || len(x.Den.Mag) > api.MaxWhole {
		return api.Frac{}, api.ErrBig
	}
	return x, api.OK
}

// wholes answers fractions that may be, all times the least number above 0 that
// makes each of them whole.
func wholes(l ...api.Frac) []*big.Int {
	by := big.NewInt(1)
	for _, x := range l {
		by = multiple(by, bigOf(x.Den))
	}
	numbers := make([]*big.Int, 0, len(l))
	for _, x := range l {
		numbers = append(numbers, times(bigOf(x.Num), over(by, bigOf(x.Den))))
	}
	return numbers
}

func bigOf(a api.Whole) *big.Int {
	n := new(big.Int).SetBytes([]byte(a.Mag))
	if a.Neg {
		return opposite(n)
	}
	return n
}

func wholeOf(n *big.Int) api.Whole { return api.Whole{Neg: n.Sign() < 0, Mag: string(n.Bytes())} }

func plus(a, b *big.Int) *big.Int { return new(big.Int).Add(a, b) }

func minus(a, b *big.Int) *big.Int { return new(big.Int).Sub(a, b) }

func times(a, b *big.Int) *big.Int { return new(big.Int).Mul(a, b) }

func over(a, b *big.Int) *big.Int { return new(big.Int).Quo(a, b) }

func double(a *big.Int) *big.Int { return plus(a, a) }

func square(a *big.Int) *big.Int { return times(a, a) }

func opposite(a *big.Int) *big.Int { return new(big.Int).Neg(a) }

func common(a, b *big.Int) *big.Int { return new(big.Int).GCD(nil, nil, a, b) }

// multiple answers the least number that both divide.
func multiple(a, b *big.Int) *big.Int { return times(a, over(b, common(a, b))) }
