package chains

import (
	"iter"
	"math/big"

	"tracery/api"
	"tracery/frac"
)

// The places of a disk's four numbers.
const (
	bend = iota
	re
	im
	co
)

// numbers are a disk's four, whole, over one that stands elsewhere. What the
// pointers lead to is shared, and so is never changed.
type numbers [4]*big.Int

func (n numbers) plus(m numbers) numbers { return paired(n, m, plus) }

func (n numbers) minus(m numbers) numbers { return paired(n, m, minus) }

func (n numbers) times(by *big.Int) numbers {
	for k, a := range n {
		n[k] = times(a, by)
	}
	return n
}

func paired(n, m numbers, does func(a, b *big.Int) *big.Int) numbers {
	for k, a := range n {
		n[k] = does(a, m[k])
	}
	return n
}

// lane is a row on its way: its four disks, by numbers of any length, all over
// one that is above 0. No disk of the row needs another one.
type lane struct {
	disks [4]numbers
	under *big.Int
}

// laneOf is for disks that may be.
func laneOf(row [4]api.Disk) lane {
	l := make([]api.Frac, 0, 17)
	for _, d := range row {
		l = append(l, d.Bend, d.Mid.Re, d.Mid.Im, d.Co)
	}
	w := wholes(append(l, frac.Int(1))...)
	return lane{
		disks: [4]numbers{numbers(w[:4]), numbers(w[4:8]), numbers(w[8:12]), numbers(w[12:16])},
		under: w[16],
	}
}

func (f lane) rails() numbers { return f.disks[rail].plus(f.disks[otherRail]) }

// at answers disk n, by the formula.
func (f lane) at(n int) numbers {
	step := f.disks[second].minus(f.disks[first])
	steps := step.times(big.NewInt(int64(n)))
	rails := f.rails().times(big.NewInt(int64(n) * int64(n-1)))
	return f.disks[first].plus(steps).plus(rails)
}

// onward goes over the disks from disk n on, without end: of the last two the
// first one is changed for the one behind both.
func (f lane) onward(n int) iter.Seq[numbers] {
	return func(yield func(numbers) bool) {
		rails := f.rails()
		last, next := f.at(n), f.at(n+1)
		for yield(last) {
			three := rails.plus(next)
			last, next = next, three.plus(three).minus(last)
		}
	}
}

// told answers the row, if none of its numbers is too long.
func (f lane) told() ([4]api.Disk, api.Errno) { return each(f.disks, f.disk) }

// disk answers the disk of these numbers, over what stands under all.
func (f lane) disk(n numbers) (api.Disk, api.Errno) {
	l, e := each(n, f.fraction)
	return api.Disk{Bend: l[bend], Mid: api.Gauss{Re: l[re], Im: l[im]}, Co: l[co]}, e
}

func (f lane) fraction(a *big.Int) (api.Frac, api.Errno) { return lowest(a, f.under) }

// each answers what is made of each of four, if none is refused.
func each[T, U any](l [4]T, makes func(x T) (U, api.Errno)) (out [4]U, e api.Errno) {
	for k, x := range l {
		if out[k], e = makes(x); e != api.OK {
			return [4]U{}, e
		}
	}
	return out, api.OK
}

// wholes answers fractions that may be, all times the least number above 0 that
// makes each of them whole.
func wholes(l ...api.Frac) []*big.Int {
	by := big.NewInt(1)
	for _, x := range l {
		den := bigOf(x.Den)
		by = times(by, quotient(den, common(by, den)))
	}
	scaled := make([]*big.Int, 0, len(l))
	for _, x := range l {
		scaled = append(scaled, times(bigOf(x.Num), quotient(by, bigOf(x.Den))))
	}
	return scaled
}

// lowest answers num over den, which is above 0, in lowest terms. It is the one
// place that refuses a number for its length.
func lowest(num, den *big.Int) (api.Frac, api.Errno) {
	shared := common(num, den)
	x := api.Frac{Num: wholeOf(quotient(num, shared)), Den: wholeOf(quotient(den, shared))}
	if len(x.Num.Mag) > api.MaxWhole || len(x.Den.Mag) > api.MaxWhole {
		return api.Frac{}, api.ErrBig
	}
	return x, api.OK
}

func bigOf(a api.Whole) *big.Int {
	n := new(big.Int).SetBytes([]byte(a.Mag))
	if a.Neg {
		return opposite(n)
	}
	return n
}

func wholeOf(n *big.Int) api.Whole { return api.Whole{Neg: n.Sign() < 0, Mag: string(n.Bytes())} }

func plus(a, b *big.Int) *big.Int { return new(big.Int).Add(a, b) }

func minus(a, b *big.Int) *big.Int { return new(big.Int).Sub(a, b) }

func times(a, b *big.Int) *big.Int { return new(big.Int).Mul(a, b) }

func quotient(a, b *big.Int) *big.Int { return new(big.Int).Quo(a, b) }

func double(a *big.Int) *big.Int { return plus(a, a) }

func square(a *big.Int) *big.Int { return times(a, a) }

func opposite(a *big.Int) *big.Int { return new(big.Int).Neg(a) }

func common(a, b *big.Int) *big.Int { return new(big.Int).GCD(nil, nil, a, b) }
