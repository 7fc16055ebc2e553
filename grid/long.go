package grid

import (
	"math/big"

	"tracery/api"
	"tracery/gauss"
)

// long is a whole complex number of any length. What its pointers lead to is
// shared, and so is never changed.
type long struct {
	re, im *big.Int
}

func short(n int64) long { return long{re: big.NewInt(n), im: new(big.Int)} }

func (z long) minus(w long) long { return long{re: minus(z.re, w.re), im: minus(z.im, w.im)} }

func (z long) times(w long) long {
	return long{
		re: minus(times(z.re, w.re), times(z.im, w.im)),
		im: plus(times(z.re, w.im), times(z.im, w.re)),
	}
}

func (z long) over(n *big.Int) long { return long{re: over(z.re, n), im: over(z.im, n)} }

func (z long) zero() bool { return z.re.Sign() == 0 && z.im.Sign() == 0 }

func (z long) same(w long) bool { return z.re.Cmp(w.re) == 0 && z.im.Cmp(w.im) == 0 }

// lowered answers two numbers, not both 0, without the whole number that all
// their parts share.
func lowered(z, w long) (long, long) {
	by := common(common(z.re, z.im), common(w.re, w.im))
	return z.over(by), w.over(by)
}

// stepping answers what tells at + i right + j up, of fractions that may be.
func stepping(at, right, up api.Frac) func(i, j int) (api.Frac, api.Errno) {
	l := wholes(at, right, up, gauss.Int(1, 0).Re)
	return func(i, j int) (api.Frac, api.Errno) {
		across, upward := times(l[1], big.NewInt(int64(i))), times(l[2], big.NewInt(int64(j)))
		return lowest(plus(l[0], plus(across, upward)), l[3])
	}
}

// wholes answers fractions that may be, all times the least number above 0 that
// makes each of them whole.
func wholes(l ...api.Frac) []*big.Int {
	by := big.NewInt(1)
	for _, x := range l {
		by = multiple(by, bigOf(x.Den))
	}
	numbers := make([]*big.Int, 0, len(l))
	for _, x := range l {
		numbers = append(numbers, times(bigOf(x.Num), over(by, bigOf(x.Den))))
	}
	return numbers
}

// lowest answers num over den, which is above 0, in lowest terms.
func lowest(num, den *big.Int) (api.Frac, api.Errno) {
	by := common(num, den)
	x := api.Frac{Num: wholeOf(over(num, by)), Den: wholeOf(over(den, by))}
	if len(x.Num.Mag) > api.MaxWhole || len(x.Den.Mag) > api.MaxWhole {
		return api.Frac{}, api.ErrBig
	}
	return x, api.OK
}

func bigOf(a api.Whole) *big.Int {
	n := new(big.Int).SetBytes([]byte(a.Mag))
	if a.Neg {
		n.Neg(n)
	}
	return n
}

func wholeOf(n *big.Int) api.Whole { return api.Whole{Neg: n.Sign() < 0, Mag: string(n.Bytes())} }

func plus(a, b *big.Int) *big.Int { return new(big.Int).Add(a, b) }

func minus(a, b *big.Int) *big.Int { return new(big.Int).Sub(a, b) }

func times(a, b *big.Int) *big.Int { return new(big.Int).Mul(a, b) }

func over(a, b *big.Int) *big.Int { return new(big.Int).Quo(a, b) }

func common(a, b *big.Int) *big.Int { return new(big.Int).GCD(nil, nil, a, b) }

// multiple answers the least number that both divide.
func multiple(a, b *big.Int) *big.Int { return times(a, over(b, common(a, b))) }
