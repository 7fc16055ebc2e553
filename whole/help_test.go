package whole_test

import (
	"math"
	"math/big"
	"math/rand"
	"strings"
	"testing"

	"tracery/api"
	"tracery/whole"
)

const topBits = 8 * api.MaxWide

// number and bigOf go by the document's words and math/big, not by the
// package that is tested.
func number(n *big.Int) api.Whole {
	return api.Whole{Neg: n.Sign() < 0, Mag: string(n.Bytes())}
}

func small(n int64) api.Whole { return number(big.NewInt(n)) }

func bigOf(a api.Whole) *big.Int {
	n := new(big.Int).SetBytes([]byte(a.Mag))
	if a.Neg {
		n.Neg(n)
	}
	return n
}

func power2(n int) api.Whole { return number(new(big.Int).Lsh(big.NewInt(1), uint(n))) }

// top is the greatest number that may be.
func top() api.Whole { return api.Whole{Mag: strings.Repeat("\xff", api.MaxWide)} }

func below(a api.Whole) api.Whole { return api.Whole{Neg: true, Mag: a.Mag} }

// wrong are numbers that may not be.
func wrong() []api.Whole {
	return []api.Whole{
		{Neg: true},
		{Mag: "\x00"},
		{Mag: "\x00\x01"},
		{Neg: true, Mag: "\x00\x01"},
		{Mag: "\x00\x00\x00\x00\x00\x00\x00\x00\x00\x05"},
		{Mag: "\x01" + strings.Repeat("\x00", api.MaxWide)},
		{Neg: true, Mag: strings.Repeat("\xff", api.MaxWide+1)},
		{Mag: "\x00" + strings.Repeat("\xff", api.MaxWide)},
	}
}

// good are some that may be, beside wrong ones.
func good() []api.Whole {
	return []api.Whole{{}, small(1), small(-1), small(1 << 40), power2(200), top(), below(top())}
}

// edges are numbers beside which a byte, a word, or what an int64 holds ends.
func edges() []*big.Int {
	var l []*big.Int
	for n := int64(-20); n <= 20; n++ {
		l = append(l, big.NewInt(n))
	}
	for _, bit := range []uint{7, 8, 15, 16, 31, 32, 33, 47, 48, 55, 56, 63, 64, 65, 95, 96, 127, 128, 192, 1000, 1024} {
		for d := int64(-1); d <= 1; d++ {
			n := new(big.Int).Lsh(big.NewInt(1), bit)
			n.Add(n, big.NewInt(d))
			l = append(l, n, new(big.Int).Neg(n))
		}
	}
	return append(l, big.NewInt(math.MaxInt64), big.NewInt(math.MinInt64))
}

// odds makes numbers of at most so many groups of 32 bits; many groups are
// all ones or all noughts, or beside these, so that carries go far.
func odds(r *rand.Rand, most int) *big.Int {
	n := new(big.Int)
	for range r.Intn(most + 1) {
		group := r.Uint32()
		switch r.Intn(8) {
		case 0, 1:
			group = math.MaxUint32
		case 2, 3:
			group = 0
		case 4:
			group = 1 << 31
		case 5:
			group = 1<<31 - 1
		}
		n.Lsh(n, 32)
		n.Add(n, big.NewInt(int64(group)))
	}
	n.Rsh(n, uint(r.Intn(32)))
	if r.Intn(2) == 0 {
		n.Neg(n)
	}
	return n
}

// pairs goes over all pairs of edges, and over odd ones, long by short too.
func pairs(t *testing.T, do func(a, b *big.Int)) {
	l := edges()
	for _, a := range l {
		for _, b := range l {
			do(a, b)
		}
	}
	r := rand.New(rand.NewSource(11))
	for range 20000 {
		do(odds(r, 9), odds(r, 1+r.Intn(9)))
	}
	for range 200 {
		do(odds(r, 70), odds(r, 1+r.Intn(70)))
	}
	if t.Failed() {
		t.FailNow()
	}
}

func want(t *testing.T, what string, got api.Whole, e api.Errno, wanted api.Whole) {
	t.Helper()
	if got != wanted || e != api.OK {
		t.Fatalf("%s is %s, %v, want %s", what, brief(got), e, brief(wanted))
	}
}

func wantRefused(t *testing.T, what string, got api.Whole, e, wanted api.Errno) {
	t.Helper()
	if got != (api.Whole{}) || e != wanted {
		t.Fatalf("%s is %s, %v, want nothing and %v", what, brief(got), e, wanted)
	}
}

func brief(a api.Whole) string {
	s := bigOf(a).String()
	if len(s) > 100 {
		return s[:100] + ".."
	}
	return s
}

func TestOddNumbersMayBe(t *testing.T) {
	r := rand.New(rand.NewSource(3))
	for range 1000 {
		if a := number(odds(r, 9)); whole.Check(a) != api.OK {
			t.Fatalf("%+v may not be", a)
		}
	}
}
