package near_test

import (
	"math"
	"math/big"
	"math/rand"
	"strings"

	"tracery/api"
)

// whole, bigOf, fraction and ratOf go by the document's words and math/big, not
// by the packages that are tested.
func whole(n *big.Int) api.Whole { return api.Whole{Neg: n.Sign() < 0, Mag: string(n.Bytes())} }

func small(n int64) api.Whole { return whole(big.NewInt(n)) }

func bigOf(a api.Whole) *big.Int {
	n := new(big.Int).SetBytes([]byte(a.Mag))
	if a.Neg {
		n.Neg(n)
	}
	return n
}

func fraction(r *big.Rat) api.Frac { return api.Frac{Num: whole(r.Num()), Den: whole(r.Denom())} }

func over(num, den int64) api.Frac { return fraction(big.NewRat(num, den)) }

func ratOf(x api.Frac) *big.Rat { return new(big.Rat).SetFrac(bigOf(x.Num), bigOf(x.Den)) }

func fits(r *big.Rat) bool {
	return len(r.Num().Bytes()) <= api.MaxWhole && len(r.Denom().Bytes()) <= api.MaxWhole
}

func plus(x, y *big.Rat) *big.Rat { return new(big.Rat).Add(x, y) }

func minus(x, y *big.Rat) *big.Rat { return new(big.Rat).Sub(x, y) }

func times(x, y *big.Rat) *big.Rat { return new(big.Rat).Mul(x, y) }

func opposite(x *big.Rat) *big.Rat { return new(big.Rat).Neg(x) }

// twos is 2 to the power n.
func twos(n int) *big.Rat {
	power := new(big.Rat).SetInt(new(big.Int).Lsh(big.NewInt(1), uint(max(n, -n))))
	if n < 0 {
		power.Inv(power)
	}
	return power
}

// exactly is for finite floats.
func exactly(f float64) *big.Rat { return new(big.Rat).SetFloat64(f) }

// pair is a complex number by math/big.
type pair struct{ re, im *big.Rat }

func pairOf(z complex128) pair { return pair{exactly(real(z)), exactly(imag(z))} }

func (z pair) number() api.Gauss { return api.Gauss{Re: fraction(z.re), Im: fraction(z.im)} }

func (z pair) plus(w pair) pair { return pair{plus(z.re, w.re), plus(z.im, w.im)} }

func (z pair) minus(w pair) pair { return pair{minus(z.re, w.re), minus(z.im, w.im)} }

func (z pair) times(w pair) pair {
	return pair{minus(times(z.re, w.re), times(z.im, w.im)), plus(times(z.re, w.im), times(z.im, w.re))}
}

func (z pair) norm() *big.Rat { return plus(times(z.re, z.re), times(z.im, z.im)) }

func (z pair) over(w pair) pair {
	by := new(big.Rat).Inv(w.norm())
	quo := z.times(pair{w.re, opposite(w.im)})
	return pair{times(quo.re, by), times(quo.im, by)}
}

// top is the greatest number of a fraction, 256 to the power 1024 less 1; past
// is the next one.
func top() api.Whole { return api.Whole{Mag: strings.Repeat("\xff", api.MaxWhole)} }

func past() api.Whole { return api.Whole{Mag: "\x01" + strings.Repeat("\x00", api.MaxWhole)} }

func below(a api.Whole) api.Whole { return api.Whole{Neg: true, Mag: a.Mag} }

func more(a api.Whole, n int64) api.Whole { return whole(new(big.Int).Add(bigOf(a), big.NewInt(n))) }

// wrongFracs are fractions that may not be.
func wrongFracs() []api.Frac {
	one := small(1)
	return []api.Frac{
		{},
		{Num: one},
		{Num: small(0), Den: small(2)},
		{Num: one, Den: small(-2)},
		{Num: small(6), Den: small(4)},
		{Num: top(), Den: top()},
		{Num: past(), Den: one},
		{Num: below(past()), Den: one},
		{Num: one, Den: past()},
		{Num: api.Whole{Neg: true}, Den: one},
		{Num: api.Whole{Mag: "\x00\x07"}, Den: one},
		{Num: one, Den: api.Whole{Mag: "\x00"}},
		{Num: api.Whole{Mag: strings.Repeat("\x7f", api.MaxWide+1)}, Den: one},
	}
}

// longFracs are as long as may be.
func longFracs() []api.Frac {
	one := small(1)
	return []api.Frac{
		{Num: top(), Den: one}, {Num: below(top()), Den: one}, {Num: one, Den: top()}, {Num: below(one), Den: top()},
		{Num: more(top(), -1), Den: top()}, {Num: below(top()), Den: more(top(), -1)},
	}
}

// wrong are numbers that may not be, for one part or for both.
func wrong() []api.Gauss {
	var l []api.Gauss
	for _, x := range wrongFracs() {
		l = append(l, api.Gauss{Re: x, Im: over(0, 1)}, api.Gauss{Re: fraction(twos(1024)), Im: x}, api.Gauss{Re: x, Im: x})
	}
	return l
}

const signBit = 1 << 63

func bits(f float64) uint64 { return math.Float64bits(f) }

func minusNought() float64 { return math.Float64frombits(signBit) }

func isFinite(f float64) bool { return bits(f)&^signBit < bits(math.Inf(1)) }

// rising are finite floats in their order: at the ends, at the bounds of the
// middle, where the gap changes.
func rising() []float64 {
	above := []float64{
		0x1p-1074, 0x1p-1073, 0x3p-1074, 0x0.ffffffffffffep-1022, 0x0.fffffffffffffp-1022, 0x1p-1022, 0x1.0000000000001p-1022, 0x1.fffffffffffffp-1022, 0x1p-1021,
		0x1p-538, 0x1.fffffffffffffp-401, 0x1p-400, 0x1.0000000000001p-400, 0x1p-52, 0.1, 1.0 / 3, 0.5, 0x1.fffffffffffffp-1, 1, 0x1.0000000000001p0, 0x1.0000000000002p0, 3,
		0x1p53, 0x1.0000000000001p53, 0x1.fffffffffffffp399, 0x1p400, 0x1.0000000000001p400, 0x1p512, 1e300, 0x1p1023, 0x1.ffffffffffffep1023, math.MaxFloat64,
	}
	var l []float64
	for k := len(above) - 1; k >= 0; k-- {
		l = append(l, -above[k])
	}
	return append(append(l, 0), above...)
}

func finites() []float64 { return append(rising(), minusNought()) }

// nans are NaNs of several bits: of either sign, quiet and loud.
func nans() []float64 {
	var l []float64
	for _, n := range []uint64{0x7ff8000000000001, 0x7ff0000000000001, 0xfff8000000000000, 0xfff7ffffffffffff, 0x7fffffffffffffff} {
		l = append(l, math.Float64frombits(n))
	}
	return l
}

func unfinites() []float64 { return append(nans(), math.Inf(1), math.Inf(-1)) }

// unfiniteNumbers have one part, or two, that is not finite.
func unfiniteNumbers() []complex128 {
	var l []complex128
	for _, f := range unfinites() {
		l = append(l, complex(f, 1), complex(minusNought(), f), complex(f, f), complex(1e300, f))
	}
	return l
}

// anyFinite: a finite float of any bits.
func anyFinite(r *rand.Rand) float64 {
	for {
		if f := math.Float64frombits(r.Uint64()); isFinite(f) {
			return f
		}
	}
}

// centred: a float in the middle; now and then a nought of either sign.
func centred(r *rand.Rand, most int) float64 {
	if r.Intn(20) == 0 {
		return math.Copysign(0, float64(r.Intn(2))-0.5)
	}
	digits := uint64(r.Int63n(1 << 52))
	if r.Intn(3) == 0 { // few digits, for ties and exact answers
		digits &= 7<<49 | 3
	}
	f := math.Float64frombits(uint64(1023-most+r.Intn(2*most))<<52 | digits)
	if r.Intn(2) == 0 {
		return -f
	}
	return f
}

// odds makes whole numbers of at most so many groups of 16 bits; many groups
// are all ones or all noughts.
func odds(r *rand.Rand, most int) *big.Int {
	n := new(big.Int)
	for range r.Intn(most + 1) {
		group := r.Int63n(1 << 16)
		switch r.Intn(6) {
		case 0:
			group = 1<<16 - 1
		case 1:
			group = 0
		}
		n.Lsh(n, 16)
		n.Add(n, big.NewInt(group))
	}
	if r.Intn(2) == 0 {
		n.Neg(n)
	}
	return n
}

func oddRat(r *rand.Rand, most int) *big.Rat {
	den := odds(r, most)
	if den.Sign() == 0 {
		den.SetInt64(1)
	}
	return new(big.Rat).SetFrac(odds(r, most), den)
}

// about are a float, the middle of it and the next one, and fractions next to
// both, on either side: so little off that a float can't tell.
func about(f float64) []*big.Rat {
	x := exactly(f)
	gap := gapOf(f)
	if f < 0 {
		gap.Neg(gap)
	}
	l := []*big.Rat{x, plus(x, times(gap, big.NewRat(1, 4))), plus(x, times(gap, big.NewRat(1, 3))), plus(x, times(gap, big.NewRat(3, 4)))}
	for _, y := range []*big.Rat{x, plus(x, times(gap, big.NewRat(1, 2)))} {
		bit := twos(-3000)
		l = append(l, y, plus(y, bit), minus(y, bit))
	}
	return l
}

// gapOf goes by the next float; there is none above the greatest.
func gapOf(f float64) *big.Rat {
	f = math.Abs(f)
	if f == math.MaxFloat64 {
		return twos(971)
	}
	return minus(exactly(math.Nextafter(f, math.Inf(1))), exactly(f))
}

// fractions goes over fractions that may be, of all kinds.
func fractions(do func(x *big.Rat)) {
	for _, f := range rising() {
		for _, x := range about(f) {
			do(x)
		}
	}
	for _, x := range longFracs() {
		do(ratOf(x))
	}
	for n := -1100; n <= 1100; n += 11 {
		for _, m := range []int64{1, 3, -1, -7} {
			do(times(twos(n), big.NewRat(m, 1)))
			do(times(twos(n), big.NewRat(m, 3)))
		}
	}
	r := rand.New(rand.NewSource(61))
	for range 400 {
		for _, x := range about(anyFinite(r)) {
			do(x)
		}
	}
	for range 3000 {
		do(oddRat(r, 1+r.Intn(12)))
	}
	for range 400 {
		do(oddRat(r, 160))
	}
	for range 20 {
		do(oddRat(r, 512))
	}
}
