package fixed_test

import (
	"math/big"
	"slices"
	"testing"

	"tracery/api"
	"tracery/gauss"
)

// whole, bigOf and fraction go by the document's words and math/big, not by the
// packages that are tested.
func whole(n *big.Int) api.Whole { return api.Whole{Neg: n.Sign() < 0, Mag: string(n.Bytes())} }

func small(n int64) api.Whole { return whole(big.NewInt(n)) }

func bigOf(a api.Whole) *big.Int {
	n := new(big.Int).SetBytes([]byte(a.Mag))
	if a.Neg {
		n.Neg(n)
	}
	return n
}

func fraction(r *big.Rat) api.Frac { return api.Frac{Num: whole(r.Num()), Den: whole(r.Denom())} }

func over(num, den int64) api.Frac { return fraction(big.NewRat(num, den)) }

func rat(num, den int64) *big.Rat { return big.NewRat(num, den) }

func none() *big.Rat { return new(big.Rat) }

func ofInt(n *big.Int) *big.Rat { return new(big.Rat).SetInt(n) }

func under(n *big.Int) *big.Rat { return new(big.Rat).SetFrac(big.NewInt(1), n) }

func plus(x, y *big.Rat) *big.Rat { return new(big.Rat).Add(x, y) }

func minus(x, y *big.Rat) *big.Rat { return new(big.Rat).Sub(x, y) }

func times(x, y *big.Rat) *big.Rat { return new(big.Rat).Mul(x, y) }

func opposite(x *big.Rat) *big.Rat { return new(big.Rat).Neg(x) }

func upTo(x *big.Rat) bool {
	return len(x.Num().Bytes()) <= api.MaxWhole && len(x.Denom().Bytes()) <= api.MaxWhole
}

// twos is 2 to the power n.
func twos(n uint) *big.Int { return new(big.Int).Lsh(big.NewInt(1), n) }

func more(n *big.Int, by int64) *big.Int { return new(big.Int).Add(n, big.NewInt(by)) }

// top is the greatest number of a fraction, 256 to the power 1024 less 1; past
// is the next one, root its square root.
func top() *big.Int { return more(past(), -1) }

func past() *big.Int { return twos(8 * api.MaxWhole) }

func root() *big.Int { return twos(4 * api.MaxWhole) }

// num is an exact complex number by math/big.
type num struct{ re, im *big.Rat }

func in(re, im int64) num { return num{rat(re, 1), rat(im, 1)} }

func flat(x *big.Rat) num { return num{x, none()} }

func (z num) gauss() api.Gauss { return api.Gauss{Re: fraction(z.re), Im: fraction(z.im)} }

func (z num) fits() bool { return upTo(z.re) && upTo(z.im) }

func (z num) zero() bool { return z.re.Sign() == 0 && z.im.Sign() == 0 }

func (z num) same(w num) bool { return z.minus(w).zero() }

func (z num) plus(w num) num { return num{plus(z.re, w.re), plus(z.im, w.im)} }

func (z num) minus(w num) num { return num{minus(z.re, w.re), minus(z.im, w.im)} }

func (z num) neg() num { return num{opposite(z.re), opposite(z.im)} }

func (z num) conj() num { return num{z.re, opposite(z.im)} }

func (z num) scaled(by *big.Rat) num { return num{times(z.re, by), times(z.im, by)} }

func (z num) norm() *big.Rat { return plus(times(z.re, z.re), times(z.im, z.im)) }

func (z num) times(w num) num {
	return num{minus(times(z.re, w.re), times(z.im, w.im)), plus(times(z.re, w.im), times(z.im, w.re))}
}

func (z num) over(w num) num { return z.times(w.conj()).scaled(new(big.Rat).Inv(w.norm())) }

func (z num) inverse() num { return in(1, 0).over(z) }

// leads tells whether of z and its opposite z is the one that a root is.
func (z num) leads() bool { return z.re.Sign() > 0 || z.re.Sign() == 0 && z.im.Sign() >= 0 }

// spot is a point by math/big.
type spot struct {
	inf bool
	z   num
}

func far() spot { return spot{inf: true} }

func at(z num) spot { return spot{z: z} }

func on(re, im int64) spot { return at(in(re, im)) }

func (p spot) point() api.Point {
	if p.inf {
		return api.Point{Inf: true}
	}
	return api.Point{Z: p.z.gauss()}
}

func (p spot) fits() bool { return p.inf || p.z.fits() }

// chart is a map by math/big, in its one form.
type chart struct {
	a, b, c, d num
	turns      bool
}

func charted(a, b, c, d int64) chart {
	return chart{a: in(a, 0), b: in(b, 0), c: in(c, 0), d: in(d, 0)}
}

func still() chart { return charted(1, 0, 0, 1) }

func slide(b num) chart { return chart{a: in(1, 0), b: b, c: in(0, 0), d: in(1, 0)} }

func stretch(a num) chart { return chart{a: a, b: in(0, 0), c: in(0, 0), d: in(1, 0)} }

func swap() chart { return charted(0, -1, 1, 0) }

// third and sixth come back behind 3 and 6 times, and leave no exact point.
func third() chart { return charted(0, -1, 1, 1) }

func sixth() chart { return charted(1, -1, 1, 2) }

func bar() chart { return still().turned() }

// curved is a map whose C is 1.
func curved(a, b, d num) chart { return chart{a: a, b: b, c: in(1, 0), d: d} }

func (m chart) turned() chart {
	m.turns = !m.turns
	return m
}

func (m chart) det() num { return m.a.times(m.d).minus(m.b.times(m.c)) }

func (m chart) still() bool {
	return !m.turns && m.c.zero() && m.b.zero() && m.a.same(m.d)
}

// formed divides by c or d, as chapter 8 says.
func (m chart) formed() chart {
	by := m.c
	if by.zero() {
		by = m.d
	}
	return chart{m.a.over(by), m.b.over(by), m.c.over(by), m.d.over(by), m.turns}
}

func (m chart) mob() api.Mob {
	return api.Mob{A: m.a.gauss(), B: m.b.gauss(), C: m.c.gauss(), D: m.d.gauss(), Turns: m.turns}
}

func (m chart) fits() bool { return m.a.fits() && m.b.fits() && m.c.fits() && m.d.fits() }

func (m chart) conj() chart { return chart{m.a.conj(), m.b.conj(), m.c.conj(), m.d.conj(), m.turns} }

// behind multiplies the matrices.
func (m chart) behind(n chart) chart {
	turns := m.turns != n.turns
	if m.turns {
		n = n.conj()
	}
	return chart{
		m.a.times(n.a).plus(m.b.times(n.c)), m.a.times(n.b).plus(m.b.times(n.d)),
		m.c.times(n.a).plus(m.d.times(n.c)), m.c.times(n.b).plus(m.d.times(n.d)), turns,
	}.formed()
}

// inverse is for maps that do not turn.
func (m chart) inverse() chart { return chart{m.d, m.b.neg(), m.c.neg(), m.a, false}.formed() }

// brought is m where what by sends elsewhere is.
func (m chart) brought(by chart) chart { return by.behind(m).behind(by.inverse()) }

func (m chart) at(p spot) spot {
	above, below := m.a, m.c
	if !p.inf {
		z := p.z
		if m.turns {
			z = z.conj()
		}
		above, below = m.a.times(z).plus(m.b), m.c.times(z).plus(m.d)
	}
	if below.zero() {
		return far()
	}
	return at(above.over(below))
}

func (p spot) same(q spot) bool {
	if p.inf || q.inf {
		return p.inf && q.inf
	}
	return p.z.same(q.z)
}

// spun is the map that is z to k z where p is infinity and q is 0.
func spun(p spot, q, k num) chart {
	if p.inf {
		return chart{a: k, b: q.minus(k.times(q)), c: in(0, 0), d: in(1, 0)}
	}
	pk := p.z.times(k)
	return chart{a: q.minus(pk), b: q.times(pk).minus(p.z.times(q)), c: in(1, 0).minus(k), d: k.times(q).minus(p.z)}.formed()
}

// pushed is the map that is z to z + b where p is infinity.
func pushed(p spot, b num) chart {
	if p.inf {
		return slide(b)
	}
	pb := p.z.times(b)
	return chart{a: in(1, 0).plus(pb), b: p.z.times(pb).neg(), c: b, d: in(1, 0).minus(pb)}.formed()
}

// sign is the chapter's formula, of maps that do not turn.
func (m chart) sign() num {
	sum := m.a.plus(m.d)
	return sum.times(sum).over(m.det())
}

// kind is the chapter's table.
func (m chart) kind() api.MobKind {
	if m.turns {
		return api.MobTurns
	}
	if m.still() {
		return api.MobStill
	}
	s := m.sign()
	if s.im.Sign() == 0 {
		switch four := s.re.Cmp(rat(4, 1)); {
		case four == 0:
			return api.MobShift
		case four > 0:
			return api.MobAway
		case s.re.Sign() >= 0:
			return api.MobRound
		}
	}
	return api.MobSpiral
}

// order does the map again and again.
func (m chart) order() int {
	for n, power := 1, m; n <= 12; n++ {
		if power.still() {
			return n
		}
		power = m.behind(power)
	}
	return 0
}

// staying goes by the chapter's words, and gauss.Sqrt's root: it is for maps with
// numbers so short that the root is told.
func (m chart) staying(t *testing.T) ([]spot, api.Errno) {
	t.Helper()
	unit := in(1, 0)
	switch {
	case m.turns, m.still():
		return nil, api.ErrMoved
	case m.c.zero() && m.a.same(unit):
		return []spot{far()}, api.OK
	case m.c.zero():
		return []spot{far(), at(m.b.over(unit.minus(m.a)))}, api.OK
	}
	e := m.a.minus(m.d)
	square := e.times(e).plus(m.b.scaled(rat(4, 1)))
	r, wrong := gauss.Sqrt(square.gauss())
	if wrong == api.ErrNone {
		return nil, wrong
	}
	if wrong != api.OK {
		t.Fatalf("the root of %s: %v", briefMap(m), wrong)
	}
	half := rat(1, 2)
	l := []spot{at(e.plus(numOf(r)).scaled(half)), at(e.minus(numOf(r)).scaled(half))}
	if square.zero() {
		l = l[:1]
	}
	return l, api.OK
}

func ratOf(x api.Frac) *big.Rat { return new(big.Rat).SetFrac(bigOf(x.Num), bigOf(x.Den)) }

func numOf(z api.Gauss) num { return num{ratOf(z.Re), ratOf(z.Im)} }

func pointsOf(l []spot) []api.Point {
	var out []api.Point
	for _, p := range l {
		out = append(out, p.point())
	}
	return out
}

// want wants the number, or that it is too big.
func want(t *testing.T, what string, got api.Gauss, e api.Errno, wanted num) {
	t.Helper()
	if !wanted.fits() {
		wantNone(t, what, got, e, api.ErrBig)
		return
	}
	if got != wanted.gauss() || e != api.OK {
		t.Fatalf("%s is %s, %v, want %s", what, brief(got), e, brief(wanted.gauss()))
	}
}

// wantPoints wants just these points, or that one is too big.
func wantPoints(t *testing.T, what string, got []api.Point, e api.Errno, wanted ...spot) {
	t.Helper()
	for _, p := range wanted {
		if !p.fits() {
			wantNoList(t, what, got, e, api.ErrBig)
			return
		}
	}
	if !slices.Equal(got, pointsOf(wanted)) || e != api.OK {
		t.Fatalf("%s are%s, %v, want%s", what, briefPoints(got), e, briefPoints(pointsOf(wanted)))
	}
}

// wantNone wants an error, and what is zero beside it.
func wantNone[T comparable](t *testing.T, what string, got T, e, wanted api.Errno) {
	t.Helper()
	var zero T
	if got != zero || e != wanted {
		t.Fatalf("%s: %v, want nothing and %v", what, e, wanted)
	}
}

func wantNoList[T any](t *testing.T, what string, got []T, e, wanted api.Errno) {
	t.Helper()
	if len(got) != 0 || e != wanted {
		t.Fatalf("%s: %d and %v, want nothing and %v", what, len(got), e, wanted)
	}
}

// wantIs wants a plain answer.
func wantIs[T comparable](t *testing.T, what string, got T, e api.Errno, wanted T) {
	t.Helper()
	if got != wanted || e != api.OK {
		t.Fatalf("%s: %v, %v, want %v", what, got, e, wanted)
	}
}

// must is for calls that refuse nothing here.
func must[T any](t *testing.T) func(x T, e api.Errno) T {
	return func(x T, e api.Errno) T {
		t.Helper()
		if e != api.OK {
			t.Fatal(e)
		}
		return x
	}
}

// tally counts what was seen, so that a test can tell what it did not see.
type tally map[string]int

func (s tally) least(t *testing.T, count int, names ...string) {
	t.Helper()
	for _, name := range names {
		if s[name] < count {
			t.Errorf("%s: seen just %d times", name, s[name])
		}
	}
}

func kindName(k api.MobKind) string {
	return [...]string{"", "still", "shift", "round", "away", "spiral", "turns"}[k]
}

func briefFrac(x api.Frac) string {
	s := bigOf(x.Num).String() + "/" + bigOf(x.Den).String()
	return s[:min(len(s), 30)]
}

func brief(z api.Gauss) string { return "(" + briefFrac(z.Re) + ", " + briefFrac(z.Im) + ")" }

func briefPoints(l []api.Point) string {
	s := ""
	for _, p := range l {
		if p.Inf {
			s += " infinity"
		} else {
			s += " " + brief(p.Z)
		}
	}
	return s
}

func briefMap(m chart) string {
	s := "map "
	if m.turns {
		s = "turn "
	}
	for _, z := range []num{m.a, m.b, m.c, m.d} {
		s += brief(z.gauss())
	}
	return s
}
