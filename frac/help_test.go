package frac_test

import (
	"math"
	"math/big"
	"math/rand"
	"strings"
	"testing"

	"tracery/api"
	"tracery/frac"
)

type ofOne = func(x api.Frac) (api.Frac, api.Errno)
type ofTwo = func(x, y api.Frac) (api.Frac, api.Errno)

// number, bigOf, fraction and ratOf go by the document's words and math/big,
// not by the packages that are tested.
func number(n *big.Int) api.Whole {
	return api.Whole{Neg: n.Sign() < 0, Mag: string(n.Bytes())}
}

func small(n int64) api.Whole { return number(big.NewInt(n)) }

func numbers(l ...int64) []api.Whole {
	var out []api.Whole
	for _, n := range l {
		out = append(out, small(n))
	}
	return out
}

func bigOf(a api.Whole) *big.Int {
	n := new(big.Int).SetBytes([]byte(a.Mag))
	if a.Neg {
		n.Neg(n)
	}
	return n
}

func fraction(r *big.Rat) api.Frac { return api.Frac{Num: number(r.Num()), Den: number(r.Denom())} }

func over(num, den int64) api.Frac { return fraction(big.NewRat(num, den)) }

func ratOf(x api.Frac) *big.Rat { return new(big.Rat).SetFrac(bigOf(x.Num), bigOf(x.Den)) }

// top is the greatest number of a fraction, 256 to the power 1024 less 1; past
// is the next one.
func top() api.Whole { return api.Whole{Mag: strings.Repeat("\xff", api.MaxWhole)} }

func past() api.Whole { return api.Whole{Mag: "\x01" + strings.Repeat("\x00", api.MaxWhole)} }

func below(a api.Whole) api.Whole { return api.Whole{Neg: true, Mag: a.Mag} }

func wide(bytes int) api.Whole { return api.Whole{Mag: strings.Repeat("\xff", bytes)} }

// plus is for whole numbers near the bounds.
func plus(a api.Whole, n int64) api.Whole {
	return number(new(big.Int).Add(bigOf(a), big.NewInt(n)))
}

// wrongWholes are whole numbers that may not be.
func wrongWholes() []api.Whole {
	return []api.Whole{
		{Neg: true},
		{Mag: "\x00"},
		{Mag: "\x00\x01"},
		{Neg: true, Mag: "\x00\x07"},
		{Mag: "\x01" + strings.Repeat("\x00", api.MaxWide)},
		{Neg: true, Mag: strings.Repeat("\xff", api.MaxWide+1)},
	}
}

// wrong are fractions that may not be.
func wrong() []api.Frac {
	l := []api.Frac{
		{},
		{Num: small(1)},
		{Num: small(0), Den: small(2)},
		{Num: small(0), Den: small(-1)},
		{Num: small(1), Den: small(-2)},
		{Num: small(-1), Den: small(-1)},
		{Num: small(6), Den: small(4)},
		{Num: small(-3), Den: small(3)},
		{Num: top(), Den: top()},
		{Num: past(), Den: small(1)},
		{Num: below(past()), Den: small(1)},
		{Num: small(1), Den: past()},
		{Num: past(), Den: top()},
		{Num: wide(api.MaxWide), Den: small(1)},
		{Num: wide(1 << 20), Den: wide(1 << 20)},
	}
	for _, a := range wrongWholes() {
		l = append(l, api.Frac{Num: a, Den: small(1)}, api.Frac{Num: small(1), Den: a}, api.Frac{Num: a, Den: a})
	}
	return l
}

// good are some that may be, beside wrong ones.
func good() []api.Frac {
	return []api.Frac{
		over(0, 1), over(1, 1), over(-1, 1), over(22, -7), over(1, math.MaxInt64),
		{Num: top(), Den: small(1)}, {Num: below(top()), Den: small(1)},
		{Num: small(1), Den: top()}, {Num: below(top()), Den: plus(top(), -1)},
	}
}

// odds makes whole numbers of at most so many groups of 16 bits; many groups
// are all ones or all noughts.
func odds(r *rand.Rand, most int) *big.Int {
	n := new(big.Int)
	for range r.Intn(most + 1) {
		group := r.Int63n(1 << 16)
		switch r.Intn(6) {
		case 0:
			group = 1<<16 - 1
		case 1:
			group = 0
		}
		n.Lsh(n, 16)
		n.Add(n, big.NewInt(group))
	}
	if r.Intn(2) == 0 {
		n.Neg(n)
	}
	return n
}

func oddRat(r *rand.Rand, most int) *big.Rat {
	den := odds(r, most)
	if den.Sign() == 0 {
		den.SetInt64(1)
	}
	return new(big.Rat).SetFrac(odds(r, most), den)
}

// ones goes over fractions near 0, and over odd ones, short and long.
func ones(do func(x *big.Rat)) {
	for num := int64(-30); num <= 30; num++ {
		for den := int64(1); den <= 12; den++ {
			do(big.NewRat(num, den))
		}
	}
	r := rand.New(rand.NewSource(3))
	for range 4000 {
		do(oddRat(r, 1+r.Intn(12)))
	}
	for range 20 {
		do(oddRat(r, 512))
	}
}

// pairs goes over twos near 0, and over odd ones.
func pairs(do func(x, y *big.Rat)) {
	var l []*big.Rat
	for num := int64(-7); num <= 7; num++ {
		for den := int64(1); den <= 5; den++ {
			l = append(l, big.NewRat(num, den))
		}
	}
	for _, x := range l {
		for _, y := range l {
			do(x, y)
		}
	}
	r := rand.New(rand.NewSource(5))
	for range 4000 {
		do(oddRat(r, 1+r.Intn(12)), oddRat(r, 1+r.Intn(12)))
	}
	for range 20 {
		do(oddRat(r, 500), oddRat(r, 500))
	}
}

// fits tells whether a fraction's numbers have no more bytes than may be.
func fits(r *big.Rat) bool {
	return len(r.Num().Bytes()) <= api.MaxWhole && len(r.Denom().Bytes()) <= api.MaxWhole
}

// wantRat wants the fraction, or that it is too long.
func wantRat(t *testing.T, what string, got api.Frac, e api.Errno, r *big.Rat) {
	t.Helper()
	if !fits(r) {
		wantRefused(t, what, got, e, api.ErrBig)
		return
	}
	want(t, what, got, e, fraction(r))
}

func want(t *testing.T, what string, got api.Frac, e api.Errno, wanted api.Frac) {
	t.Helper()
	if got != wanted || e != api.OK {
		t.Fatalf("%s is %s, %v, want %s", what, brief(got), e, brief(wanted))
	}
}

func wantRefused(t *testing.T, what string, got api.Frac, e, wanted api.Errno) {
	t.Helper()
	if got != (api.Frac{}) || e != wanted {
		t.Fatalf("%s is %s, %v, want nothing and %v", what, brief(got), e, wanted)
	}
}

func wantWhole(t *testing.T, what string, got api.Whole, e api.Errno, wanted api.Whole) {
	t.Helper()
	if got != wanted || e != api.OK {
		t.Fatalf("%s is %v, %v, want %v", what, bigOf(got), e, bigOf(wanted))
	}
}

func brief(x api.Frac) string {
	s := bigOf(x.Num).String() + "/" + bigOf(x.Den).String()
	if len(s) > 100 {
		return s[:100] + ".."
	}
	return s
}

// must is for calls that refuse nothing here.
func must(t *testing.T) func(x api.Frac, e api.Errno) api.Frac {
	return func(x api.Frac, e api.Errno) api.Frac {
		t.Helper()
		if e != api.OK || !frac.May(x) {
			t.Fatal(brief(x), e)
		}
		return x
	}
}
