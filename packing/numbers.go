package packing

import (
	"math/big"

	"tracery/api"
)

// The places of a disk's four numbers.
const (
	bend = iota
	re
	im
	co
)

// numbers are four fractions on their way: whole numbers of any length, all
// over one that is above 0. They are a disk's four numbers, or one number of
// each of four disks. What the pointers lead to is shared, and so is never
// changed.
type numbers struct {
	parts [4]*big.Int
	under *big.Int
}

// fractions is for such as may be.
func fractions(l [4]api.Frac) numbers {
	n := numbers{under: big.NewInt(1)}
	for _, x := range l {
		den := bigOf(x.Den)
		n.under = times(n.under, quotient(den, new(big.Int).GCD(nil, nil, n.under, den)))
	}
	for k, x := range l {
		n.parts[k] = times(bigOf(x.Num), quotient(n.under, bigOf(x.Den)))
	}
	return n
}

func numbersOf(d api.Disk) numbers {
	return fractions([4]api.Frac{bend: d.Bend, re: d.Mid.Re, im: d.Mid.Im, co: d.Co})
}

func bendsOf(f [4]api.Disk) numbers {
	return fractions([4]api.Frac{f[0].Bend, f[1].Bend, f[2].Bend, f[3].Bend})
}

// below tells whether the product of two disks is below 1.
func (n numbers) below(m numbers) bool {
	crossed := plus(times(n.parts[bend], m.parts[co]), times(n.parts[co], m.parts[bend]))
	mids := plus(times(n.parts[re], m.parts[re]), times(n.parts[im], m.parts[im]))
	return crossed.Cmp(double(plus(mids, times(n.under, m.under)))) < 0
}

// others answers the sum of all but one, without what stands under it.
func (n numbers) others(i int) *big.Int {
	return plus(plus(n.parts[(i+1)%4], n.parts[(i+2)%4]), n.parts[(i+3)%4])
}

// changed is for one number of each of four disks.
func (n numbers) changed(i int) numbers {
	n.parts[i] = minus(double(n.others(i)), n.parts[i])
	return n
}

// falling answers the first place, if there is one, at which to change it makes
// it less: that is so where the others together are less.
func (n numbers) falling() (int, bool) {
	for i, part := range n.parts {
		if n.others(i).Cmp(part) < 0 {
			return i, true
		}
	}
	return 0, false
}

// quad is four disks that touch each other, number by number, each number of
// all four together: to change a disk makes no new factor under them.
type quad [4]numbers

// quadOf is for disks that may be.
func quadOf(f [4]api.Disk) quad {
	return quad{
		bend: bendsOf(f),
		re:   fractions([4]api.Frac{f[0].Mid.Re, f[1].Mid.Re, f[2].Mid.Re, f[3].Mid.Re}),
		im:   fractions([4]api.Frac{f[0].Mid.Im, f[1].Mid.Im, f[2].Mid.Im, f[3].Mid.Im}),
		co:   fractions([4]api.Frac{f[0].Co, f[1].Co, f[2].Co, f[3].Co}),
	}
}

func (q quad) changed(i int) quad {
	for k, n := range q {
		q[k] = n.changed(i)
	}
	return q
}

// disk answers one of the four.
func (q quad) disk(i int) (api.Disk, api.Errno) {
	var l [4]api.Frac
	for k, n := range q {
		x, e := lowest(n.parts[i], n.under)
		if e != api.OK {
			return api.Disk{}, e
		}
		l[k] = x
	}
	return api.Disk{Bend: l[bend], Mid: api.Gauss{Re: l[re], Im: l[im]}, Co: l[co]}, api.OK
}

// lowest answers num over den, which is above 0, in lowest terms, if it is not
// too long.
func lowest(num, den *big.Int) (api.Frac, api.Errno) {
	r := new(big.Rat).SetFrac(num, den)
	x := api.Frac{Num: wholeOf(r.Num()), Den: wholeOf(r.Denom())}
	if len(x.Num.Mag) > api.MaxWhole || len(x.Den.Mag) > api.MaxWhole {
		return api.Frac{}, api.ErrBig
	}
	return x, api.OK
}

func bigOf(a api.Whole) *big.Int {
	n := new(big.Int).SetBytes([]byte(a.Mag))
	if a.Neg {
		n.Neg(n)
	}
	return n
}

func wholeOf(n *big.Int) api.Whole { return api.Whole{Neg: n.Sign() < 0, Mag: string(n.Bytes())} }

func plus(a, b *big.Int) *big.Int { return new(big.Int).Add(a, b) }

func minus(a, b *big.Int) *big.Int { return new(big.Int).Sub(a, b) }

func times(a, b *big.Int) *big.Int { return new(big.Int).Mul(a, b) }

func quotient(a, b *big.Int) *big.Int { return new(big.Int).Quo(a, b) }

func double(a *big.Int) *big.Int { return plus(a, a) }
