package ford_test

import (
	"fmt"
	"iter"
	"math/big"
	"slices"
	"testing"

	"tracery/api"
)

// What follows goes by the document's words and math/big, not by the packages
// that are tested.

func whole(n *big.Int) api.Whole { return api.Whole{Neg: n.Sign() < 0, Mag: string(n.Bytes())} }

func small(n int64) api.Whole { return whole(big.NewInt(n)) }

func fraction(r *big.Rat) api.Frac { return api.Frac{Num: whole(r.Num()), Den: whole(r.Denom())} }

func fractions(l []*big.Rat) []api.Frac {
	var out []api.Frac
	for _, x := range l {
		out = append(out, fraction(x))
	}
	return out
}

func of(num, den int64) api.Frac { return fraction(big.NewRat(num, den)) }

func rat(num, den int64) *big.Rat { return big.NewRat(num, den) }

func ofInt(n *big.Int) *big.Rat { return new(big.Rat).SetInt(n) }

func ratio(num, den *big.Int) *big.Rat { return new(big.Rat).SetFrac(num, den) }

func inverse(n *big.Int) *big.Rat { return ratio(big.NewInt(1), n) }

func plus(x, y *big.Rat) *big.Rat { return new(big.Rat).Add(x, y) }

func minus(x, y *big.Rat) *big.Rat { return new(big.Rat).Sub(x, y) }

func times(x, y *big.Rat) *big.Rat { return new(big.Rat).Mul(x, y) }

func quo(x, y *big.Rat) *big.Rat { return new(big.Rat).Quo(x, y) }

func opposite(x *big.Rat) *big.Rat { return new(big.Rat).Neg(x) }

func magnitude(x *big.Rat) *big.Rat { return new(big.Rat).Abs(x) }

func mean(x, y *big.Rat) *big.Rat { return times(plus(x, y), rat(1, 2)) }

func upTo(x *big.Rat) bool {
	return len(x.Num().Bytes()) <= api.MaxWhole && len(x.Denom().Bytes()) <= api.MaxWhole
}

// floor is the greatest whole number that is not above x.
func floor(x *big.Rat) *big.Int { return new(big.Int).Div(x.Num(), x.Denom()) }

// cross is p s - q r of p/q and r/s.
func cross(x, y *big.Rat) *big.Int {
	return lessInt(timesInt(x.Num(), y.Denom()), timesInt(x.Denom(), y.Num()))
}

func timesInt(a, b *big.Int) *big.Int { return new(big.Int).Mul(a, b) }

func plusInt(a, b *big.Int) *big.Int { return new(big.Int).Add(a, b) }

func lessInt(a, b *big.Int) *big.Int { return new(big.Int).Sub(a, b) }

func quoInt(a, b *big.Int) *big.Int { return new(big.Int).Quo(a, b) }

func rootInt(a *big.Int) *big.Int { return new(big.Int).Sqrt(a) }

// twos is 2 to the power n.
func twos(n uint) *big.Int { return new(big.Int).Lsh(big.NewInt(1), n) }

func more(n *big.Int, by int64) *big.Int { return plusInt(n, big.NewInt(by)) }

func shared(n *big.Int, by int64) *big.Int { return quoInt(n, big.NewInt(by)) }

// top is the greatest number of a fraction, 256 to the power 1024 less 1; past
// is the next one.
func top() *big.Int { return more(past(), -1) }

func past() *big.Int { return twos(8 * api.MaxWhole) }

// widest is the greatest number of which twice the square is at most top.
func widest() *big.Int { return rootInt(shared(top(), 2)) }

// neighbours tells whether two fractions are.
func neighbours(x, y *big.Rat) bool { return cross(x, y).CmpAbs(big.NewInt(1)) == 0 }

// simpler is layer 3's: tells whether x is simpler than y.
func simpler(x, y *big.Rat) bool {
	if c := x.Denom().Cmp(y.Denom()); c != 0 {
		return c < 0
	}
	if c := x.Num().CmpAbs(y.Num()); c != 0 {
		return c < 0
	}
	return x.Sign() >= 0 && y.Sign() < 0
}

// quotients are layer 3's.
func quotients(x *big.Rat) []*big.Int {
	a := floor(x)
	rest := minus(x, ofInt(a))
	if rest.Sign() == 0 {
		return []*big.Int{a}
	}
	return append([]*big.Int{a}, quotients(new(big.Rat).Inv(rest))...)
}

// made is the fraction of these quotients.
func made(l ...int64) *big.Rat {
	x := rat(l[len(l)-1], 1)
	for _, a := range slices.Backward(l[:len(l)-1]) {
		x = plus(rat(a, 1), new(big.Rat).Inv(x))
	}
	return x
}

// ball is a disk by math/big, or four numbers that stand for none.
type ball struct {
	bend, re, im, co *big.Rat
}

func balled(bend, re, im, co int64) ball {
	return ball{rat(bend, 1), rat(re, 1), rat(im, 1), rat(co, 1)}
}

// about is the disk about a centre with a radius, of one below 0 what lies
// outside: Co is what makes |Mid|^2 - Bend Co 1.
func about(re, im, radius *big.Rat) ball {
	x := ball{bend: quo(rat(1, 1), radius), re: quo(re, radius), im: quo(im, radius)}
	norm := plus(times(x.re, x.re), times(x.im, x.im))
	x.co = times(minus(norm, rat(1, 1)), radius)
	return x
}

// stood is the disk over p/q, by its centre and its radius.
func stood(x *big.Rat) ball {
	q := ofInt(x.Denom())
	radius := quo(rat(1, 2), times(q, q))
	return about(x, radius, radius)
}

func (x ball) disk() api.Disk {
	return api.Disk{Bend: fraction(x.bend), Mid: api.Gauss{Re: fraction(x.re), Im: fraction(x.im)}, Co: fraction(x.co)}
}

func (x ball) fits() bool { return upTo(x.bend) && upTo(x.re) && upTo(x.im) && upTo(x.co) }

func (x ball) out() ball {
	return ball{opposite(x.bend), opposite(x.re), opposite(x.im), opposite(x.co)}
}

// may tells whether it is a disk.
func (x ball) may() bool {
	norm := plus(times(x.re, x.re), times(x.im, x.im))
	return x.fits() && minus(norm, times(x.bend, x.co)).Cmp(rat(1, 1)) == 0
}

// product is the document's.
func (x ball) product(y ball) *big.Rat {
	crossed := mean(times(x.bend, y.co), times(y.bend, x.co))
	return minus(crossed, plus(times(x.re, y.re), times(x.im, y.im)))
}

// brief tells an answer so that it can be read.
func brief(x any) string {
	switch v := x.(type) {
	case api.Whole:
		return briefRat(api.Frac{Num: v, Den: small(1)})
	case api.Frac:
		return briefRat(v)
	case api.Disk:
		return fmt.Sprint("disk ", brief(v.Bend), " ", brief(v.Mid.Re), " ", brief(v.Mid.Im), " ", brief(v.Co))
	case told:
		return fmt.Sprint(v.above, " ", brief(v.x))
	}
	return fmt.Sprint(x)
}

func briefRat(x api.Frac) string {
	s := new(big.Int).SetBytes([]byte(x.Num.Mag)).String() + "/" + new(big.Int).SetBytes([]byte(x.Den.Mag)).String()
	if x.Num.Neg {
		s = "-" + s
	}
	return s[:min(len(s), 30)]
}

// want wants an answer that can be held against another one by ==.
func want[T comparable](t *testing.T, what string, got T, e api.Errno, wanted T) {
	t.Helper()
	if got != wanted || e != api.OK {
		t.Fatalf("%s is %s, %v, want %s", what, brief(got), e, brief(wanted))
	}
}

// wantNone wants an error, and what is zero beside it.
func wantNone[T comparable](t *testing.T, what string, got T, e, wanted api.Errno) {
	t.Helper()
	var zero T
	if got != zero || e != wanted {
		t.Fatalf("%s is %s, %v, want nothing, %v", what, brief(got), e, wanted)
	}
}

// wantFrac wants the fraction, or that it is too big.
func wantFrac(t *testing.T, what string, got api.Frac, e api.Errno, wanted *big.Rat) {
	t.Helper()
	if !upTo(wanted) {
		wantNone(t, what, got, e, api.ErrBig)
		return
	}
	want(t, what, got, e, fraction(wanted))
}

// wantList wants what is told to be this, one by one.
func wantList[T comparable](t *testing.T, what string, got, wanted []T) {
	t.Helper()
	for k := range min(len(got), len(wanted)) {
		if got[k] != wanted[k] {
			t.Fatalf("%s tells %s in the place %d, want %s", what, brief(got[k]), k, brief(wanted[k]))
		}
	}
	if len(got) != len(wanted) {
		t.Fatalf("%s tells %d, want %d", what, len(got), len(wanted))
	}
}

// told is a fraction on a way, and whether its end is above it.
type told struct {
	above bool
	x     api.Frac
}

// first answers the first ones that are told, up to so many.
func first(seq iter.Seq[api.Frac], count int) []api.Frac {
	var l []api.Frac
	if count == 0 {
		return l
	}
	for x := range seq {
		l = append(l, x)
		if len(l) == count {
			break
		}
	}
	return l
}

// pairs makes of a way what tells one thing at a time.
func pairs(seq iter.Seq2[bool, api.Frac]) iter.Seq[told] {
	return func(yield func(told) bool) {
		for above, x := range seq {
			if !yield(told{above, x}) {
				return
			}
		}
	}
}

// wantIterator wants what may be left early, gone over again, by turns and
// within itself, and tells the same each time.
func wantIterator[T comparable](t *testing.T, what string, seq iter.Seq[T], wanted []T) {
	t.Helper()
	wantList(t, what, slices.Collect(seq), wanted)
	wantList(t, what+" once more", slices.Collect(seq), wanted)
	for count := 1; count <= min(len(wanted), 9); count++ {
		calls := 0
		seq(func(T) bool {
			calls++
			return calls < count
		})
		if calls != count {
			t.Fatalf("%s goes on for %d, though it was left behind %d", what, calls, count)
		}
	}
	one, stop := iter.Pull(seq)
	defer stop()
	two, end := iter.Pull(seq)
	defer end()
	var l, m []T
	for k := range wanted {
		x, ok := one()
		if !ok {
			t.Fatalf("%s by turns ends", what)
		}
		l = append(l, x)
		if k%3 == 0 {
			y, _ := two()
			m = append(m, y)
		}
	}
	wantList(t, what+" by turns", l, wanted)
	wantList(t, what+" by turns, too", m, wanted[:len(m)])
	l = nil
	for x := range seq {
		l = append(l, x)
		if len(l) > 20 {
			continue
		}
		m = nil
		for y := range seq {
			if m = append(m, y); len(m) == len(l) {
				break
			}
		}
		wantList(t, what+" within itself", m, wanted[:len(m)])
	}
	wantList(t, what+" about itself", l, wanted)
}

// wantNothing wants what is there, and tells nothing.
func wantNothing[T comparable](t *testing.T, what string, seq iter.Seq[T]) {
	t.Helper()
	if seq == nil {
		t.Fatalf("%s is not there", what)
	}
	for x := range seq {
		t.Fatalf("%s tells %s, want nothing", what, brief(x))
	}
}

// tally counts what was seen, so that a test can tell what it did not see.
type tally map[string]int

func (s tally) least(t *testing.T, count int, names ...string) {
	t.Helper()
	for _, name := range names {
		if s[name] < count {
			t.Errorf("%s: seen just %d times", name, s[name])
		}
	}
}

func (s tally) when(name string, ok bool) {
	if ok {
		s[name]++
	}
}

// fit counts what fits and what is too big.
func (s tally) fit(fits bool) {
	s.when("fits", fits)
	s.when("too big", !fits)
}
