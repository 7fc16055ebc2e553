package tiles_test

import (
	"math/big"
	"slices"
	"testing"

	"tracery/api"
)

// whole, bigOf and fraction go by the document's words and math/big, not by the
// packages that are tested.
func whole(n *big.Int) api.Whole { return api.Whole{Neg: n.Sign() < 0, Mag: string(n.Bytes())} }

func small(n int64) api.Whole { return whole(big.NewInt(n)) }

func bigOf(a api.Whole) *big.Int {
	n := new(big.Int).SetBytes([]byte(a.Mag))
	if a.Neg {
		n.Neg(n)
	}
	return n
}

func fraction(r *big.Rat) api.Frac { return api.Frac{Num: whole(r.Num()), Den: whole(r.Denom())} }

func ratOf(x api.Frac) *big.Rat { return new(big.Rat).SetFrac(bigOf(x.Num), bigOf(x.Den)) }

func over(num, den int64) api.Frac { return fraction(big.NewRat(num, den)) }

func rat(num, den int64) *big.Rat { return big.NewRat(num, den) }

func ofInt(n *big.Int) *big.Rat { return new(big.Rat).SetInt(n) }

func under(n *big.Int) *big.Rat { return new(big.Rat).SetFrac(big.NewInt(1), n) }

func plus(x, y *big.Rat) *big.Rat { return new(big.Rat).Add(x, y) }

func minus(x, y *big.Rat) *big.Rat { return new(big.Rat).Sub(x, y) }

func times(x, y *big.Rat) *big.Rat { return new(big.Rat).Mul(x, y) }

func quo(x, y *big.Rat) *big.Rat { return new(big.Rat).Quo(x, y) }

func opposite(x *big.Rat) *big.Rat { return new(big.Rat).Neg(x) }

// down rounds down.
func down(x *big.Rat) *big.Rat { return ofInt(new(big.Int).Div(x.Num(), x.Denom())) }

func upTo(x *big.Rat) bool {
	return len(x.Num().Bytes()) <= api.MaxWhole && len(x.Denom().Bytes()) <= api.MaxWhole
}

// twos is 2 to the power n.
func twos(n uint) *big.Int { return new(big.Int).Lsh(big.NewInt(1), n) }

// top is the greatest number of a fraction, 256 to the power 1024 less 1; past
// is the next one.
func top() *big.Int { return new(big.Int).Sub(past(), big.NewInt(1)) }

func past() *big.Int { return twos(8 * api.MaxWhole) }

// share is the greatest number that can be had n times, and no more often.
func share(n int64) *big.Int { return new(big.Int).Div(top(), big.NewInt(n)) }

// num is an exact complex number by math/big.
type num struct{ re, im *big.Rat }

func in(re, im int64) num { return num{rat(re, 1), rat(im, 1)} }

func parts(a, b, c, d int64) num { return num{rat(a, b), rat(c, d)} }

func flat(x *big.Rat) num { return num{x, new(big.Rat)} }

func (z num) gauss() api.Gauss { return api.Gauss{Re: fraction(z.re), Im: fraction(z.im)} }

func (z num) fits() bool { return upTo(z.re) && upTo(z.im) }

func (z num) zero() bool { return z.re.Sign() == 0 && z.im.Sign() == 0 }

func (z num) same(w num) bool { return z.minus(w).zero() }

func (z num) plus(w num) num { return num{plus(z.re, w.re), plus(z.im, w.im)} }

func (z num) minus(w num) num { return num{minus(z.re, w.re), minus(z.im, w.im)} }

func (z num) neg() num { return num{opposite(z.re), opposite(z.im)} }

func (z num) conj() num { return num{z.re, opposite(z.im)} }

func (z num) norm() *big.Rat { return plus(times(z.re, z.re), times(z.im, z.im)) }

func (z num) times(w num) num {
	return num{minus(times(z.re, w.re), times(z.im, w.im)), plus(times(z.re, w.im), times(z.im, w.re))}
}

func (z num) over(w num) num { return z.times(w.conj()).times(flat(new(big.Rat).Inv(w.norm()))) }

// spot is a point by math/big.
type spot struct {
	inf bool
	z   num
}

func far() spot { return spot{inf: true} }

func at(z num) spot { return spot{z: z} }

func on(re, im int64) spot { return at(in(re, im)) }

func (p spot) point() api.Point {
	if p.inf {
		return api.Point{Inf: true}
	}
	return api.Point{Z: p.z.gauss()}
}

func (p spot) fits() bool { return p.inf || p.z.fits() }

// ring is a circle by math/big, or three numbers that stand for one, or for none.
type ring struct {
	a *big.Rat
	b num
	c *big.Rat
}

func ringed(a, re, im, c int64) ring { return ring{rat(a, 1), in(re, im), rat(c, 1)} }

func unit() ring { return ringed(1, 0, 0, -1) }

// about is the circle |z - centre|^2 = square.
func about(centre num, square *big.Rat) ring {
	return ring{rat(1, 1), centre.conj().neg(), minus(centre.norm(), square)}
}

// beside is the line Re z = x, level the line Im z = x.
func beside(x *big.Rat) ring { return ring{new(big.Rat), in(1, 0), times(rat(-2, 1), x)} }

func level(x *big.Rat) ring { return ring{new(big.Rat), in(0, 1), times(rat(2, 1), x)} }

func (k ring) circle() api.Circle {
	return api.Circle{A: fraction(k.a), B: k.b.gauss(), C: fraction(k.c)}
}

func (k ring) fits() bool { return upTo(k.a) && k.b.fits() && upTo(k.c) }

func (k ring) line() bool { return k.a.Sign() == 0 }

func (k ring) empty() bool { return minus(k.b.norm(), times(k.a, k.c)).Sign() <= 0 }

// leading is the number that is 1 in a circle's one form.
func (k ring) leading() *big.Rat {
	for _, x := range []*big.Rat{k.a, k.b.re} {
		if x.Sign() != 0 {
			return x
		}
	}
	return k.b.im
}

func (k ring) formed() ring {
	by := k.leading()
	return ring{quo(k.a, by), num{quo(k.b.re, by), quo(k.b.im, by)}, quo(k.c, by)}
}

// value goes by the chapter's words.
func (k ring) value(p spot) int {
	if p.inf {
		return k.a.Sign()
	}
	twice := times(rat(2, 1), k.b.times(p.z).re)
	return plus(plus(times(k.a, p.z.norm()), twice), k.c).Sign()
}

// verge is a side by math/big.
type verge struct {
	ring
	sign int
	edge bool
}

func (s verge) side() api.Side { return api.Side{Circle: s.circle(), Sign: s.sign, Edge: s.edge} }

func (s verge) within(p spot) bool {
	v := s.value(p)
	return v == s.sign || v == 0 && s.edge
}

func sidesOf(l ...verge) []api.Side {
	var out []api.Side
	for _, s := range l {
		out = append(out, s.side())
	}
	return out
}

func where(p spot, l ...verge) api.Place {
	touched := false
	for _, s := range l {
		if s.value(p) == 0 {
			touched = true
		} else if !s.within(p) {
			return api.PlaceOut
		}
	}
	if touched {
		return api.PlaceRim
	}
	return api.PlaceIn
}

func beyond(p spot, l ...verge) int {
	return slices.IndexFunc(l, func(s verge) bool { return !s.within(p) })
}

// chart is a map by math/big, in its one form, of numbers of any length.
type chart struct {
	a, b, c, d num
	turns      bool
}

func charted(a, b, c, d int64) chart {
	return chart{a: in(a, 0), b: in(b, 0), c: in(c, 0), d: in(d, 0)}.formed()
}

func still() chart { return charted(1, 0, 0, 1) }

func slide(b num) chart { return chart{a: in(1, 0), b: b, c: in(0, 0), d: in(1, 0)} }

func stretch(a num) chart { return chart{a: a, b: in(0, 0), c: in(0, 0), d: in(1, 0)} }

// swap is z to -1 / z, bar z to its conjugate.
func swap() chart { return charted(0, -1, 1, 0) }

func bar() chart { return still().turned() }

func (m chart) turned() chart {
	m.turns = !m.turns
	return m
}

func (m chart) formed() chart {
	by := m.c
	if by.zero() {
		by = m.d
	}
	return chart{m.a.over(by), m.b.over(by), m.c.over(by), m.d.over(by), m.turns}
}

func (m chart) flat() bool { return m.a.times(m.d).same(m.b.times(m.c)) }

func (m chart) mob() api.Mob {
	return api.Mob{A: m.a.gauss(), B: m.b.gauss(), C: m.c.gauss(), D: m.d.gauss(), Turns: m.turns}
}

func mobsOf(l ...chart) []api.Mob {
	var out []api.Mob
	for _, m := range l {
		out = append(out, m.mob())
	}
	return out
}

func (m chart) fits() bool { return m.a.fits() && m.b.fits() && m.c.fits() && m.d.fits() }

func (m chart) conj() chart { return chart{m.a.conj(), m.b.conj(), m.c.conj(), m.d.conj(), m.turns} }

// behind multiplies the matrices.
func (m chart) behind(n chart) chart {
	turns := m.turns != n.turns
	if m.turns {
		n = n.conj()
	}
	return chart{
		m.a.times(n.a).plus(m.b.times(n.c)), m.a.times(n.b).plus(m.b.times(n.d)),
		m.c.times(n.a).plus(m.d.times(n.c)), m.c.times(n.b).plus(m.d.times(n.d)), turns,
	}.formed()
}

func (m chart) inverse() chart {
	n := chart{m.d, m.b.neg(), m.c.neg(), m.a, m.turns}
	if m.turns {
		n = n.conj()
	}
	return n.formed()
}

// at goes by the words of DOC.md.
func (m chart) at(p spot) spot {
	if p.inf {
		if m.c.zero() {
			return far()
		}
		return at(m.a.over(m.c))
	}
	w := p.z
	if m.turns {
		w = w.conj()
	}
	below := m.c.times(w).plus(m.d)
	if below.zero() {
		return far()
	}
	return at(m.a.times(w).plus(m.b).over(below))
}

// pulled answers the side of those points that m leads to within s. With what
// stands below the line in m's image of w multiplied in, s's value there is
// a |w|^2 + 2 Re(b w) + c again: what a, b and c are, four w tell.
func (m chart) pulled(s verge) verge {
	value := func(re, im int64) *big.Rat {
		w := in(re, im)
		if m.turns {
			w = w.conj()
		}
		u, v := m.a.times(w).plus(m.b), m.c.times(w).plus(m.d)
		twice := times(rat(2, 1), s.b.times(u).times(v.conj()).re)
		return plus(plus(times(s.ring.a, u.norm()), twice), times(s.ring.c, v.norm()))
	}
	c, right, left, up := value(0, 0), value(1, 0), value(-1, 0), value(0, 1)
	a := minus(times(rat(1, 2), plus(right, left)), c)
	b := num{times(rat(1, 4), minus(right, left)), times(rat(-1, 2), minus(up, plus(a, c)))}
	k := ring{a, b, c}
	return verge{k.formed(), s.sign * k.leading().Sign(), s.edge}
}

// image is what m makes of the side.
func (m chart) image(s verge) verge { return m.inverse().pulled(s) }

// deal is a tiling by math/big.
type deal struct {
	sides []verge
	maps  []chart
}

func (d deal) tiling() api.Tiling {
	return api.Tiling{Sides: sidesOf(d.sides...), Maps: mobsOf(d.maps...)}
}

// landing is what Bring answers.
type landing struct {
	p   spot
	m   chart
	way []int
}

// bring goes by the words of P18.3.
func (d deal) bring(p spot, most int) (landing, api.Errno) {
	l := landing{p: p, m: still()}
	for {
		k := beyond(l.p, d.sides...)
		if k < 0 {
			return l, api.OK
		}
		if len(l.way) == most {
			return landing{}, api.ErrSteps
		}
		l = landing{d.maps[k].at(l.p), d.maps[k].behind(l.m), append(l.way, k+1)}
		if !l.p.fits() || !l.m.fits() {
			return landing{}, api.ErrBig
		}
	}
}

func (d deal) move(n int) chart {
	if n < 0 {
		return d.maps[-n-1].inverse()
	}
	return d.maps[n-1]
}

// along puts the way's maps together, the first one being done first.
func (d deal) along(way ...int) chart {
	m := still()
	for _, n := range way {
		m = d.move(n).behind(m)
	}
	return m
}

func (d deal) tile(way ...int) []verge {
	var l []verge
	m := d.along(way...)
	for _, s := range d.sides {
		l = append(l, m.pulled(s))
	}
	return l
}

// home goes by the words of P18.4.
func home(z num) (num, chart, int) {
	m, turns := still(), 0
	for {
		n := flat(opposite(down(plus(z.re, rat(1, 2)))))
		z, m = z.plus(n), slide(n).behind(m)
		size := z.norm().Cmp(rat(1, 1))
		if size > 0 || size == 0 && z.re.Sign() <= 0 {
			return z, m, turns
		}
		z, m, turns = in(-1, 0).over(z), swap().behind(m), turns+1
		if size == 0 {
			return z, m, turns
		}
	}
}

func wantError(t *testing.T, what string, got, want api.Errno) {
	t.Helper()
	if got != want {
		t.Errorf("%s is %v, want %v", what, got, want)
	}
}

// want wants an answer that can be held against another one by ==.
func want[T comparable](t *testing.T, what string, got T, e api.Errno, wanted T) {
	t.Helper()
	if got != wanted || e != api.OK {
		t.Fatalf("%s is %v, %v, want %v", what, got, e, wanted)
	}
}

// wantNone wants an error, and what is zero beside it.
func wantNone[T comparable](t *testing.T, what string, got T, e, wanted api.Errno) {
	t.Helper()
	var zero T
	if got != zero || e != wanted {
		t.Fatalf("%s is %v, %v, want nothing, %v", what, got, e, wanted)
	}
}

// wantSides wants these sides, or ErrBig, if one of them is too big.
func wantSides(t *testing.T, what string, got []api.Side, e api.Errno, wanted ...verge) string {
	t.Helper()
	if slices.ContainsFunc(wanted, func(s verge) bool { return !s.fits() }) {
		wantNoSides(t, what, got, e, api.ErrBig)
		return "too big"
	}
	if !slices.Equal(got, sidesOf(wanted...)) || e != api.OK {
		t.Fatalf("%s: %d other sides, %v", what, len(got), e)
	}
	return "fits"
}

func wantNoSides(t *testing.T, what string, got []api.Side, e, wanted api.Errno) {
	t.Helper()
	if got != nil || e != wanted {
		t.Fatalf("%s: %d sides, %v, want none, %v", what, len(got), e, wanted)
	}
}

func wantLanding(t *testing.T, what string, got api.Homed, e api.Errno, wanted landing) {
	t.Helper()
	if got.Point != wanted.p.point() || got.Map != wanted.m.mob() || !slices.Equal(got.Way, wanted.way) || got.Turns != 0 || e != api.OK {
		t.Fatalf("%s is elsewhere, by the way %v, %v, want %v", what, got.Way, e, wanted.way)
	}
}

func wantNoHomed(t *testing.T, what string, got api.Homed, e, wanted api.Errno) {
	t.Helper()
	if got.Point != (api.Point{}) || got.Map != (api.Mob{}) || got.Way != nil || got.Turns != 0 || e != wanted {
		t.Fatalf("%s is something, %v, want nothing, %v", what, e, wanted)
	}
}

// must is for calls that refuse nothing here.
func must[T any](t *testing.T) func(x T, e api.Errno) T {
	return func(x T, e api.Errno) T {
		t.Helper()
		if e != api.OK {
			t.Fatal(e)
		}
		return x
	}
}

// tally counts what was seen, so that a test can tell what it did not see.
type tally map[string]int

func (s tally) least(t *testing.T, count int, names ...string) {
	t.Helper()
	for _, name := range names {
		if s[name] < count {
			t.Errorf("%s: seen just %d times", name, s[name])
		}
	}
}
