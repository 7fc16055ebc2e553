package gauss_test

import (
	"math/big"
	"math/rand"
	"strings"
	"testing"

	"tracery/api"
	"tracery/gauss"
)

type ofOne = func(z api.Gauss) (api.Gauss, api.Errno)
type ofTwo = func(z, w api.Gauss) (api.Gauss, api.Errno)
type fracOfTwo = func(z, w api.Gauss) (api.Frac, api.Errno)

// whole, bigOf, fraction and ratOf go by the document's words and math/big, not
// by the packages that are tested.
func whole(n *big.Int) api.Whole { return api.Whole{Neg: n.Sign() < 0, Mag: string(n.Bytes())} }

func small(n int64) api.Whole { return whole(big.NewInt(n)) }

func bigOf(a api.Whole) *big.Int {
	n := new(big.Int).SetBytes([]byte(a.Mag))
	if a.Neg {
		n.Neg(n)
	}
	return n
}

func fraction(r *big.Rat) api.Frac { return api.Frac{Num: whole(r.Num()), Den: whole(r.Denom())} }

func over(num, den int64) api.Frac { return fraction(big.NewRat(num, den)) }

func ratOf(x api.Frac) *big.Rat { return new(big.Rat).SetFrac(bigOf(x.Num), bigOf(x.Den)) }

// pair is a complex number by math/big.
type pair struct{ re, im *big.Rat }

func pairOf(z api.Gauss) pair { return pair{ratOf(z.Re), ratOf(z.Im)} }

func short(re, im int64) pair { return pair{big.NewRat(re, 1), big.NewRat(im, 1)} }

func (z pair) number() api.Gauss { return api.Gauss{Re: fraction(z.re), Im: fraction(z.im)} }

func (z pair) zero() bool { return z.re.Sign() == 0 && z.im.Sign() == 0 }

func (z pair) neg() pair { return pair{new(big.Rat).Neg(z.re), new(big.Rat).Neg(z.im)} }

func (z pair) conj() pair { return pair{z.re, new(big.Rat).Neg(z.im)} }

func (z pair) add(w pair) pair {
	return pair{new(big.Rat).Add(z.re, w.re), new(big.Rat).Add(z.im, w.im)}
}

func (z pair) sub(w pair) pair { return z.add(w.neg()) }

func (z pair) dot(w pair) *big.Rat {
	a, b := new(big.Rat).Mul(z.re, w.re), new(big.Rat).Mul(z.im, w.im)
	return a.Add(a, b)
}

func (z pair) cross(w pair) *big.Rat {
	a, b := new(big.Rat).Mul(z.re, w.im), new(big.Rat).Mul(z.im, w.re)
	return a.Sub(a, b)
}

func (z pair) mul(w pair) pair { return pair{z.conj().dot(w), z.conj().cross(w)} }

func (z pair) scale(by *big.Rat) pair {
	return pair{new(big.Rat).Mul(z.re, by), new(big.Rat).Mul(z.im, by)}
}

func (z pair) quo(w pair) pair {
	return z.mul(w.conj()).scale(new(big.Rat).Inv(w.dot(w)))
}

func fitsRat(r *big.Rat) bool {
	return len(r.Num().Bytes()) <= api.MaxWhole && len(r.Denom().Bytes()) <= api.MaxWhole
}

func (z pair) fits() bool { return fitsRat(z.re) && fitsRat(z.im) }

// top is the greatest number of a fraction, 256 to the power 1024 less 1; past
// is the next one.
func top() api.Whole { return api.Whole{Mag: strings.Repeat("\xff", api.MaxWhole)} }

func past() api.Whole { return api.Whole{Mag: "\x01" + strings.Repeat("\x00", api.MaxWhole)} }

func below(a api.Whole) api.Whole { return api.Whole{Neg: true, Mag: a.Mag} }

func more(a api.Whole, n int64) api.Whole { return whole(new(big.Int).Add(bigOf(a), big.NewInt(n))) }

// twos is 2 to the power n.
func twos(n uint) *big.Int { return new(big.Int).Lsh(big.NewInt(1), n) }

func ratOfTwo(num, den *big.Int) *big.Rat { return new(big.Rat).SetFrac(num, den) }

func ofInt(n *big.Int) *big.Rat { return new(big.Rat).SetInt(n) }

// wrongFracs are fractions that may not be.
func wrongFracs() []api.Frac {
	one := small(1)
	return []api.Frac{
		{},
		{Num: one},
		{Num: small(0), Den: small(2)},
		{Num: one, Den: small(-2)},
		{Num: small(6), Den: small(4)},
		{Num: top(), Den: top()},
		{Num: past(), Den: one},
		{Num: below(past()), Den: one},
		{Num: one, Den: past()},
		{Num: api.Whole{Neg: true}, Den: one},
		{Num: api.Whole{Mag: "\x00\x07"}, Den: one},
		{Num: one, Den: api.Whole{Mag: "\x00"}},
		{Num: api.Whole{Mag: strings.Repeat("\x7f", api.MaxWide+1)}, Den: one},
	}
}

// wrong are numbers that may not be, for one part or for both.
func wrong() []api.Gauss {
	var l []api.Gauss
	for _, x := range wrongFracs() {
		l = append(l, api.Gauss{Re: x, Im: over(0, 1)}, api.Gauss{Re: over(-3, 2), Im: x}, api.Gauss{Re: x, Im: x})
	}
	return l
}

// good are some that may be, as long as may be among them.
func good() []api.Gauss {
	one := small(1)
	most, least := api.Frac{Num: top(), Den: one}, api.Frac{Num: below(one), Den: top()}
	near := api.Frac{Num: below(more(top(), -1)), Den: top()}
	return []api.Gauss{
		{Re: over(0, 1), Im: over(0, 1)}, {Re: over(1, 1), Im: over(0, 1)}, {Re: over(0, 1), Im: over(-1, 1)},
		{Re: over(1, 2), Im: over(-2, 3)}, {Re: most, Im: over(0, 1)}, {Re: over(0, 1), Im: least},
		{Re: most, Im: least}, {Re: near, Im: most}, {Re: least, Im: near},
	}
}

// odds makes whole numbers of at most so many groups of 16 bits; many groups
// are all ones or all noughts.
func odds(r *rand.Rand, most int) *big.Int {
	n := new(big.Int)
	for range r.Intn(most + 1) {
		group := r.Int63n(1 << 16)
		switch r.Intn(6) {
		case 0:
			group = 1<<16 - 1
		case 1:
			group = 0
		}
		n.Lsh(n, 16)
		n.Add(n, big.NewInt(group))
	}
	if r.Intn(2) == 0 {
		n.Neg(n)
	}
	return n
}

func oddRat(r *rand.Rand, most int) *big.Rat {
	den := odds(r, most)
	if den.Sign() == 0 {
		den.SetInt64(1)
	}
	return ratOfTwo(odds(r, most), den)
}

// odd makes a number; some have one part alone, some the same den twice.
func odd(r *rand.Rand, most int) pair {
	z := pair{oddRat(r, most), oddRat(r, most)}
	switch r.Intn(8) {
	case 0:
		z.re = new(big.Rat)
	case 1:
		z.im = new(big.Rat)
	case 2:
		z.im = ratOfTwo(odds(r, most), z.re.Denom())
	}
	return z
}

// exactly makes whole numbers of just so many bytes.
func exactly(r *rand.Rand, bytes int) *big.Int {
	b := make([]byte, bytes)
	r.Read(b)
	b[0] |= 0x80
	return new(big.Int).SetBytes(b)
}

// grid are numbers near 0.
func grid() []pair {
	var l []pair
	for _, re := range []*big.Rat{big.NewRat(0, 1), big.NewRat(1, 1), big.NewRat(-1, 1), big.NewRat(-3, 2), big.NewRat(5, 6), big.NewRat(4, 1)} {
		for _, im := range []*big.Rat{big.NewRat(0, 1), big.NewRat(1, 1), big.NewRat(-1, 1), big.NewRat(1, 2), big.NewRat(-7, 3), big.NewRat(3, 1)} {
			l = append(l, pair{re, im})
		}
	}
	return l
}

// ones goes over numbers near 0, odd ones, and ones as long as may be.
func ones(do func(z pair)) {
	for _, z := range grid() {
		do(z)
	}
	r := rand.New(rand.NewSource(4))
	for range 1000 {
		do(odd(r, 1+r.Intn(12)))
	}
	for range 6 {
		do(odd(r, 512))
	}
	for _, z := range good() {
		do(pairOf(z))
	}
}

// twoes goes over twos of such.
func twoes(do func(z, w pair)) {
	for _, z := range grid() {
		for _, w := range grid() {
			do(z, w)
		}
	}
	r := rand.New(rand.NewSource(6))
	for range 1000 {
		do(odd(r, 1+r.Intn(12)), odd(r, 1+r.Intn(12)))
	}
	for range 6 {
		do(odd(r, 120), odd(r, 120))
		do(odd(r, 512), odd(r, 512))
	}
	for _, z := range good() {
		for _, w := range good() {
			do(pairOf(z), pairOf(w))
		}
	}
}

// wantPair wants the number, or that it is too long.
func wantPair(t *testing.T, what string, got api.Gauss, e api.Errno, z pair) {
	t.Helper()
	if !z.fits() {
		wantRefused(t, what, got, e, api.ErrBig)
		return
	}
	want(t, what, got, e, z.number())
}

func want(t *testing.T, what string, got api.Gauss, e api.Errno, wanted api.Gauss) {
	t.Helper()
	if got != wanted || e != api.OK {
		t.Fatalf("%s is %s, %v, want %s", what, brief(got), e, brief(wanted))
	}
}

func wantRefused(t *testing.T, what string, got api.Gauss, e, wanted api.Errno) {
	t.Helper()
	if got != (api.Gauss{}) || e != wanted {
		t.Fatalf("%s is %s, %v, want nothing and %v", what, brief(got), e, wanted)
	}
}

// wantRat wants the fraction, or that it is too long.
func wantRat(t *testing.T, what string, got api.Frac, e api.Errno, r *big.Rat) {
	t.Helper()
	if !fitsRat(r) {
		wantNoFrac(t, what, got, e, api.ErrBig)
		return
	}
	if got != fraction(r) || e != api.OK {
		t.Fatalf("%s is %s, %v, want %.100s", what, briefFrac(got), e, r.String())
	}
}

func wantNoFrac(t *testing.T, what string, got api.Frac, e, wanted api.Errno) {
	t.Helper()
	if got != (api.Frac{}) || e != wanted {
		t.Fatalf("%s is %s, %v, want nothing and %v", what, briefFrac(got), e, wanted)
	}
}

func briefFrac(x api.Frac) string {
	s := bigOf(x.Num).String() + "/" + bigOf(x.Den).String()
	if len(s) > 60 {
		return s[:60] + ".."
	}
	return s
}

func brief(z api.Gauss) string { return "(" + briefFrac(z.Re) + ", " + briefFrac(z.Im) + ")" }

// must is for calls that refuse nothing here.
func must(t *testing.T) func(z api.Gauss, e api.Errno) api.Gauss {
	return func(z api.Gauss, e api.Errno) api.Gauss {
		t.Helper()
		if e != api.OK || !gauss.May(z) {
			t.Fatal(brief(z), e)
		}
		return z
	}
}
