package hurwitz_test

import (
	"fmt"
	"iter"
	"math/big"
	"slices"
	"testing"

	"tracery/api"
)

// What follows goes by the document's words and math/big, not by the packages
// that are tested.

func whole(n *big.Int) api.Whole { return api.Whole{Neg: n.Sign() < 0, Mag: string(n.Bytes())} }

func fraction(r *big.Rat) api.Frac { return api.Frac{Num: whole(r.Num()), Den: whole(r.Denom())} }

func ratOf(x api.Frac) *big.Rat {
	num := new(big.Int).SetBytes([]byte(x.Num.Mag))
	if x.Num.Neg {
		num.Neg(num)
	}
	return ratio(num, new(big.Int).SetBytes([]byte(x.Den.Mag)))
}

func rat(num, den int64) *big.Rat { return big.NewRat(num, den) }

func ofInt(n *big.Int) *big.Rat { return new(big.Rat).SetInt(n) }

func ratio(num, den *big.Int) *big.Rat { return new(big.Rat).SetFrac(num, den) }

func inverse(n *big.Int) *big.Rat { return ratio(big.NewInt(1), n) }

func plus(x, y *big.Rat) *big.Rat { return new(big.Rat).Add(x, y) }

func minus(x, y *big.Rat) *big.Rat { return new(big.Rat).Sub(x, y) }

func times(x, y *big.Rat) *big.Rat { return new(big.Rat).Mul(x, y) }

func quo(x, y *big.Rat) *big.Rat { return new(big.Rat).Quo(x, y) }

func opposite(x *big.Rat) *big.Rat { return new(big.Rat).Neg(x) }

func upTo(x *big.Rat) bool { return short(x.Num()) && short(x.Denom()) }

func short(n *big.Int) bool { return len(n.Bytes()) <= api.MaxWhole }

func plusInt(a, b *big.Int) *big.Int { return new(big.Int).Add(a, b) }

func lessInt(a, b *big.Int) *big.Int { return new(big.Int).Sub(a, b) }

func timesInt(a, b *big.Int) *big.Int { return new(big.Int).Mul(a, b) }

func negInt(a *big.Int) *big.Int { return new(big.Int).Neg(a) }

// twos is 2 to the power n.
func twos(n uint) *big.Int { return new(big.Int).Lsh(big.NewInt(1), n) }

func more(n *big.Int, by int64) *big.Int { return plusInt(n, big.NewInt(by)) }

func shared(n *big.Int, by int64) *big.Int { return new(big.Int).Quo(n, big.NewInt(by)) }

// top is the greatest number of a fraction, 256 to the power 1024 less 1; past
// is the next one.
func top() *big.Int { return more(past(), -1) }

func past() *big.Int { return twos(8 * api.MaxWhole) }

// nearestInt is the nearest whole number to a / b, b being above 0: it looks at
// the one below and at the one above.
func nearestInt(a, b *big.Int) (near *big.Int, ties bool) {
	low := new(big.Int).Div(a, b)
	high := more(low, 1)
	under, over := lessInt(a, timesInt(low, b)), lessInt(timesInt(high, b), a)
	switch under.Cmp(over) {
	case -1:
		return low, false
	case 1:
		return high, false
	}
	if low.Bit(0) == 0 {
		return low, true
	}
	return high, true
}

// num is an exact complex number by math/big.
type num struct {
	re, im *big.Rat
}

func frac(a, b, c, d int64) num { return num{rat(a, b), rat(c, d)} }

func (z num) gauss() api.Gauss { return api.Gauss{Re: fraction(z.re), Im: fraction(z.im)} }

func (z num) fits() bool { return upTo(z.re) && upTo(z.im) }

func (z num) plus(w num) num { return num{plus(z.re, w.re), plus(z.im, w.im)} }

func (z num) minus(w num) num { return num{minus(z.re, w.re), minus(z.im, w.im)} }

func (z num) opposite() num { return num{opposite(z.re), opposite(z.im)} }

func (z num) norm() *big.Rat { return plus(times(z.re, z.re), times(z.im, z.im)) }

func (z num) zero() bool { return z.re.Sign() == 0 && z.im.Sign() == 0 }

// over1 is 1 over z.
func (z num) over1() num {
	n := z.norm()
	return num{quo(z.re, n), opposite(quo(z.im, n))}
}

// near is the chapter's: part by part.
func (z num) near() cell {
	re, _ := nearestInt(z.re.Num(), z.re.Denom())
	im, _ := nearestInt(z.im.Num(), z.im.Denom())
	return cell{re, im}
}

// quotients are the chapter's.
func (z num) quotients() []cell {
	var l []cell
	for {
		a := z.near()
		l = append(l, a)
		rest := z.minus(a.num())
		if rest.zero() {
			return l
		}
		z = rest.over1()
	}
}

// cell is a whole complex number by math/big.
type cell struct {
	re, im *big.Int
}

func is(re, im int64) cell { return cell{big.NewInt(re), big.NewInt(im)} }

func (z cell) num() num { return num{ofInt(z.re), ofInt(z.im)} }

func (z cell) gauss() api.Gauss { return z.num().gauss() }

func (z cell) fits() bool { return short(z.re) && short(z.im) }

func (z cell) same(w cell) bool { return z.re.Cmp(w.re) == 0 && z.im.Cmp(w.im) == 0 }

func (z cell) zero() bool { return z.re.Sign() == 0 && z.im.Sign() == 0 }

func (z cell) plus(w cell) cell { return cell{plusInt(z.re, w.re), plusInt(z.im, w.im)} }

func (z cell) minus(w cell) cell { return cell{lessInt(z.re, w.re), lessInt(z.im, w.im)} }

func (z cell) conj() cell { return cell{z.re, negInt(z.im)} }

func (z cell) norm() *big.Int { return plusInt(timesInt(z.re, z.re), timesInt(z.im, z.im)) }

func (z cell) times(w cell) cell {
	return cell{
		lessInt(timesInt(z.re, w.re), timesInt(z.im, w.im)),
		plusInt(timesInt(z.re, w.im), timesInt(z.im, w.re)),
	}
}

// over is z / w as it stands, in fractions.
func (z cell) over(w cell) num {
	product, by := z.times(w.conj()), w.norm()
	return num{ratio(product.re, by), ratio(product.im, by)}
}

// div is the nearest one to z / w, and the rest; ties tells of how many parts
// two were as near.
func (z cell) div(w cell) (q, rest cell, ties int) {
	product, by := z.times(w.conj()), w.norm()
	re, one := nearestInt(product.re, by)
	im, two := nearestInt(product.im, by)
	for _, tie := range []bool{one, two} {
		if tie {
			ties++
		}
	}
	q = cell{re, im}
	return q, z.minus(q.times(w)), ties
}

// turn is i times z.
func (z cell) turn() cell { return cell{negInt(z.im), z.re} }

func (z cell) turned(k int) cell {
	for range k {
		z = z.turn()
	}
	return z
}

// atFirst tells whether z is in its first place.
func (z cell) atFirst() bool { return z.zero() || z.re.Sign() > 0 && z.im.Sign() >= 0 }

// turns is how often it must be turned for that.
func (z cell) turns() int {
	k := 0
	for !z.turned(k).atFirst() {
		k++
	}
	return k
}

// combined goes by the chapter's words: the divisor, u and v, not yet looked at
// for their length, and how many divisions there were.
func combined(a, b cell) (d, u, v cell, steps int) {
	type line struct{ rest, u, v cell }
	x, y := line{a, is(1, 0), is(0, 0)}, line{b, is(0, 0), is(1, 0)}
	for !y.rest.zero() {
		q, rest, _ := x.rest.div(y.rest)
		x, y = y, line{rest, x.u.minus(q.times(y.u)), x.v.minus(q.times(y.v))}
		steps++
	}
	k := x.rest.turns()
	return x.rest.turned(k), x.u.turned(k), x.v.turned(k), steps
}

// pairOf is z, times the product of both Dens, and that.
func pairOf(z num) (over, under cell) {
	den := timesInt(z.re.Denom(), z.im.Denom())
	over = cell{timesInt(z.re.Num(), z.im.Denom()), timesInt(z.im.Num(), z.re.Denom())}
	return over, cell{den, big.NewInt(0)}
}

// longQuotients are those of z by rests: the same ones, sooner.
func longQuotients(z num) []cell {
	var l []cell
	a, b := pairOf(z)
	for !b.zero() {
		q, rest, _ := a.div(b)
		l = append(l, q)
		a, b = b, rest
	}
	return l
}

// triple is a quotient and a convergent.
type triple struct {
	a, p, q cell
}

func (x triple) fits() bool { return x.a.fits() && x.p.fits() && x.q.fits() }

func (x triple) told() api.Converge {
	return api.Converge{A: x.a.gauss(), P: x.p.gauss(), Q: x.q.gauss()}
}

// convergents are the chapter's: all of them, of any length.
func convergents(l []cell) []triple {
	var out []triple
	p, q := []cell{is(1, 0)}, []cell{is(0, 0)}
	for k, a := range l {
		if k == 0 {
			p, q = append(p, a), append(q, is(1, 0))
		} else {
			p = append(p, a.times(p[k]).plus(p[k-1]))
			q = append(q, a.times(q[k]).plus(q[k-1]))
		}
		out = append(out, triple{a, p[k+1], q[k+1]})
	}
	return out
}

// toTell is what is told of them.
func toTell(l []triple) []api.Converge {
	var out []api.Converge
	for _, x := range l {
		if !x.fits() {
			break
		}
		out = append(out, x.told())
	}
	return out
}

func gausses(l []cell) []api.Gauss {
	var out []api.Gauss
	for _, z := range l {
		out = append(out, z.gauss())
	}
	return out
}

// brief tells an answer so that it can be read.
func brief(x any) string {
	switch v := x.(type) {
	case api.Gauss:
		return "(" + briefFrac(v.Re) + " " + briefFrac(v.Im) + ")"
	case num:
		return brief(v.gauss())
	case cell:
		return brief(v.gauss())
	case api.Converge:
		return brief(v.A) + " " + brief(v.P) + "/" + brief(v.Q)
	case two:
		return brief(v.p) + " " + brief(v.q)
	case three:
		return brief(v.d) + " " + brief(v.u) + " " + brief(v.v)
	}
	return fmt.Sprint(x)
}

func briefFrac(x api.Frac) string {
	s := new(big.Int).SetBytes([]byte(x.Num.Mag)).String() + "/" + new(big.Int).SetBytes([]byte(x.Den.Mag)).String()
	if x.Num.Neg {
		s = "-" + s
	}
	return s[:min(len(s), 30)]
}

// want wants an answer that can be held against another one by ==.
func want[T comparable](t *testing.T, what string, got T, e api.Errno, wanted T) {
	t.Helper()
	if got != wanted || e != api.OK {
		t.Fatalf("%s is %s, %v, want %s", what, brief(got), e, brief(wanted))
	}
}

// wantNone wants an error, and what is zero beside it.
func wantNone[T comparable](t *testing.T, what string, got T, e, wanted api.Errno) {
	t.Helper()
	var zero T
	if got != zero || e != wanted {
		t.Fatalf("%s is %s, %v, want nothing, %v", what, brief(got), e, wanted)
	}
}

// wantList wants what is told to be this, one by one.
func wantList[T comparable](t *testing.T, what string, got, wanted []T) {
	t.Helper()
	for k := range min(len(got), len(wanted)) {
		if got[k] != wanted[k] {
			t.Fatalf("%s tells %s in the place %d, want %s", what, brief(got[k]), k, brief(wanted[k]))
		}
	}
	if len(got) != len(wanted) {
		t.Fatalf("%s tells %d, want %d", what, len(got), len(wanted))
	}
}

// wantIterator wants what may be left early, gone over again, by turns and
// within itself, and tells the same each time.
func wantIterator[T comparable](t *testing.T, what string, seq iter.Seq[T], wanted []T) {
	t.Helper()
	wantList(t, what, slices.Collect(seq), wanted)
	wantList(t, what+" once more", slices.Collect(seq), wanted)
	for count := 1; count <= min(len(wanted), 9); count++ {
		var l []T
		seq(func(x T) bool {
			l = append(l, x)
			return len(l) < count
		})
		wantList(t, what+", left early", l, wanted[:count])
	}
	one, stop := iter.Pull(seq)
	defer stop()
	two, end := iter.Pull(seq)
	defer end()
	var l, m []T
	for k := range wanted {
		x, ok := one()
		if !ok {
			t.Fatalf("%s by turns ends", what)
		}
		l = append(l, x)
		if k%3 == 0 {
			y, _ := two()
			m = append(m, y)
		}
	}
	wantList(t, what+" by turns", l, wanted)
	wantList(t, what+" by turns, too", m, wanted[:len(m)])
	l = nil
	for x := range seq {
		l = append(l, x)
		if len(l) > 20 {
			continue
		}
		m = nil
		for y := range seq {
			if m = append(m, y); len(m) == len(l) {
				break
			}
		}
		wantList(t, what+" within itself", m, wanted[:len(m)])
	}
	wantList(t, what+" about itself", l, wanted)
}

// wantNothing wants what is there, and tells nothing.
func wantNothing[T comparable](t *testing.T, what string, seq iter.Seq[T]) {
	t.Helper()
	if seq == nil {
		t.Fatalf("%s is not there", what)
	}
	for x := range seq {
		t.Fatalf("%s tells %s, want nothing", what, brief(x))
	}
}

// tally counts what was seen, so that a test can tell what it did not see.
type tally map[string]int

func (s tally) least(t *testing.T, count int, names ...string) {
	t.Helper()
	for _, name := range names {
		if s[name] < count {
			t.Errorf("%s: seen just %d times", name, s[name])
		}
	}
}

func (s tally) never(t *testing.T, names ...string) {
	t.Helper()
	for _, name := range names {
		if s[name] > 0 {
			t.Errorf("%s: seen %d times", name, s[name])
		}
	}
}

func (s tally) when(name string, ok bool) {
	if ok {
		s[name]++
	}
}
