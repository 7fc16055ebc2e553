package invert_test

import (
	"math/big"
	"testing"

	"tracery/api"
)

// whole, bigOf, fraction and ratOf go by the document's words and math/big, not
// by the packages that are tested.
func whole(n *big.Int) api.Whole { return api.Whole{Neg: n.Sign() < 0, Mag: string(n.Bytes())} }

func small(n int64) api.Whole { return whole(big.NewInt(n)) }

func bigOf(a api.Whole) *big.Int {
	n := new(big.Int).SetBytes([]byte(a.Mag))
	if a.Neg {
		n.Neg(n)
	}
	return n
}

func fraction(r *big.Rat) api.Frac { return api.Frac{Num: whole(r.Num()), Den: whole(r.Denom())} }

func over(num, den int64) api.Frac { return fraction(big.NewRat(num, den)) }

func ofInt(n *big.Int) *big.Rat { return new(big.Rat).SetInt(n) }

func under(n *big.Int) *big.Rat { return new(big.Rat).SetFrac(big.NewInt(1), n) }

func rat(num, den int64) *big.Rat { return big.NewRat(num, den) }

func none() *big.Rat { return new(big.Rat) }

func plus(x, y *big.Rat) *big.Rat { return new(big.Rat).Add(x, y) }

func minus(x, y *big.Rat) *big.Rat { return new(big.Rat).Sub(x, y) }

func times(x, y *big.Rat) *big.Rat { return new(big.Rat).Mul(x, y) }

func quo(x, y *big.Rat) *big.Rat { return new(big.Rat).Quo(x, y) }

func opposite(x *big.Rat) *big.Rat { return new(big.Rat).Neg(x) }

func twice(x *big.Rat) *big.Rat { return plus(x, x) }

func upTo(x *big.Rat) bool {
	return len(x.Num().Bytes()) <= api.MaxWhole && len(x.Denom().Bytes()) <= api.MaxWhole
}

// twos is 2 to the power n.
func twos(n uint) *big.Int { return new(big.Int).Lsh(big.NewInt(1), n) }

func less(n *big.Int, by int64) *big.Int { return new(big.Int).Sub(n, big.NewInt(by)) }

// top is the greatest number of a fraction, 256 to the power 1024 less 1; past
// is the next one, root its square root.
func top() *big.Int { return less(past(), 1) }

func past() *big.Int { return twos(8 * api.MaxWhole) }

func root() *big.Int { return twos(4 * api.MaxWhole) }

// num is an exact complex number by math/big.
type num struct{ re, im *big.Rat }

func in(re, im int64) num { return num{rat(re, 1), rat(im, 1)} }

func real(x *big.Rat) num { return num{x, none()} }

func (z num) gauss() api.Gauss { return api.Gauss{Re: fraction(z.re), Im: fraction(z.im)} }

func (z num) fits() bool { return upTo(z.re) && upTo(z.im) }

func (z num) zero() bool { return z.re.Sign() == 0 && z.im.Sign() == 0 }

func (z num) same(w num) bool { return z.minus(w).zero() }

func (z num) plus(w num) num { return num{plus(z.re, w.re), plus(z.im, w.im)} }

func (z num) minus(w num) num { return num{minus(z.re, w.re), minus(z.im, w.im)} }

func (z num) neg() num { return num{opposite(z.re), opposite(z.im)} }

func (z num) conj() num { return num{z.re, opposite(z.im)} }

func (z num) scaled(by *big.Rat) num { return num{times(z.re, by), times(z.im, by)} }

func (z num) quarter() num { return num{opposite(z.im), z.re} }

func (z num) dot(w num) *big.Rat { return plus(times(z.re, w.re), times(z.im, w.im)) }

func (z num) norm() *big.Rat { return z.dot(z) }

func (z num) times(w num) num {
	return num{minus(times(z.re, w.re), times(z.im, w.im)), plus(times(z.re, w.im), times(z.im, w.re))}
}

func (z num) over(w num) num { return z.times(w.conj()).scaled(new(big.Rat).Inv(w.norm())) }

// spot is a point by math/big.
type spot struct {
	inf bool
	z   num
}

func far() spot { return spot{inf: true} }

func at(z num) spot { return spot{z: z} }

func on(re, im int64) spot { return at(in(re, im)) }

func (p spot) point() api.Point {
	if p.inf {
		return api.Point{Inf: true}
	}
	return api.Point{Z: p.z.gauss()}
}

func (p spot) fits() bool { return p.inf || p.z.fits() }

// ring is a circle by math/big, or three numbers that stand for one, or for none.
type ring struct {
	a *big.Rat
	b num
	c *big.Rat
}

func ringed(a, re, im, c int64) ring { return ring{rat(a, 1), in(re, im), rat(c, 1)} }

func unit() ring { return ringed(1, 0, 0, -1) }

// reals is the line Im z = 0, ups the line Re z = 0, high the line Im z = 1.
func reals() ring { return ringed(0, 0, 1, 0) }

func ups() ring { return ringed(0, 1, 0, 0) }

func high() ring { return ringed(0, 0, 1, 2) }

// about is the circle |z - centre|^2 = square.
func about(centre num, square *big.Rat) ring {
	return ring{rat(1, 1), centre.conj().neg(), minus(centre.norm(), square)}
}

// o is the circle about re + im i with a whole radius.
func o(re, im, radius int64) ring { return about(in(re, im), rat(radius*radius, 1)) }

// beside is the line Re z = x.
func beside(x *big.Rat) ring { return ring{none(), in(1, 0), opposite(twice(x))} }

// upon is the line through p that is upright on normal.
func upon(normal, p num) ring {
	return ring{none(), normal.conj(), opposite(twice(normal.dot(p)))}.formed()
}

func (k ring) circle() api.Circle {
	return api.Circle{A: fraction(k.a), B: k.b.gauss(), C: fraction(k.c)}
}

func circlesOf(l ...ring) []api.Circle {
	var out []api.Circle
	for _, k := range l {
		out = append(out, k.circle())
	}
	return out
}

func (k ring) fits() bool { return upTo(k.a) && k.b.fits() && upTo(k.c) }

func (k ring) power() *big.Rat { return minus(k.b.norm(), times(k.a, k.c)) }

func (k ring) empty() bool { return k.power().Sign() <= 0 }

func (k ring) line() bool { return k.a.Sign() == 0 }

// same is for rings in their one form.
func (k ring) same(l ring) bool { return k.circle() == l.circle() }

// formed divides as the chapter says.
func (k ring) formed() ring {
	by := k.a
	if by.Sign() == 0 {
		by = k.b.re
	}
	if by.Sign() == 0 {
		by = k.b.im
	}
	by = new(big.Rat).Inv(by)
	return ring{times(k.a, by), k.b.scaled(by), times(k.c, by)}
}

// centre and square are for circles that are no lines.
func (k ring) centre() num { return k.b.conj().neg() }

func (k ring) square() *big.Rat { return k.power() }

func (k ring) value(z num) *big.Rat {
	return plus(plus(times(k.a, z.norm()), twice(k.b.times(z).re)), k.c)
}

func (k ring) holds(p spot) bool {
	if p.inf {
		return k.line()
	}
	return k.value(p.z).Sign() == 0
}

// mirrored is for lines: as far behind it as it was ahead.
func (k ring) mirrored(z num) num {
	return z.minus(k.b.conj().scaled(quo(k.value(z), k.b.norm())))
}

// turned goes by the centre and the radius: the image lies on the same ray, its
// distance times the old one being the radius squared.
func (k ring) turned(p spot) spot {
	switch {
	case k.line() && p.inf:
		return p
	case k.line():
		return at(k.mirrored(p.z))
	case p.inf:
		return at(k.centre())
	}
	way := p.z.minus(k.centre())
	if way.zero() {
		return far()
	}
	return at(k.centre().plus(way.scaled(quo(k.square(), way.norm()))))
}

// image turns a circle by its centre and its radius, a line by its upright.
func (k ring) image(l ring) ring {
	if k.line() {
		if !l.line() {
			return about(k.mirrored(l.centre()), l.square())
		}
		foot := l.mirrored(in(0, 0)).scaled(rat(1, 2))
		normal := k.mirrored(foot.plus(l.b.conj())).minus(k.mirrored(foot))
		return upon(normal, k.mirrored(foot))
	}
	m, s := k.centre(), k.square()
	if l.line() {
		value := l.value(m)
		if value.Sign() == 0 {
			return l
		}
		way := l.b.conj().scaled(opposite(quo(s, value)))
		return about(m.plus(way), way.norm())
	}
	way := l.centre().minus(m)
	rest := minus(way.norm(), l.square())
	if rest.Sign() == 0 {
		return upon(way, m.plus(way.scaled(quo(s, twice(way.norm())))))
	}
	by := quo(s, rest)
	return about(m.plus(way.scaled(by)), times(l.square(), times(by, by)))
}

// right goes by Pythagoras.
func (k ring) right(l ring) bool {
	if k.line() {
		k, l = l, k
	}
	switch {
	case k.line():
		return k.b.dot(l.b).Sign() == 0
	case l.line():
		return l.holds(at(k.centre()))
	}
	return k.centre().minus(l.centre()).norm().Cmp(plus(k.square(), l.square())) == 0
}

// common finds by elimination what goes through p and is at right angles to
// both, as far as it is one circle.
func common(k, l ring, p spot) (ring, bool) {
	var rows [][4]*big.Rat
	for _, m := range []ring{k, l} {
		two := m.b.scaled(rat(2, 1))
		rows = append(rows, [4]*big.Rat{opposite(m.c), two.re, two.im, opposite(m.a)})
	}
	if p.inf {
		rows = append(rows, [4]*big.Rat{rat(1, 1), none(), none(), none()})
	} else {
		two := p.z.conj().scaled(rat(2, 1))
		rows = append(rows, [4]*big.Rat{p.z.norm(), two.re, two.im, rat(1, 1)})
	}
	led := reduced(rows)
	if len(led) < 3 {
		return ring{}, false
	}
	free := 6 - led[0] - led[1] - led[2]
	parts := [4]*big.Rat{}
	parts[free] = rat(1, 1)
	for n, col := range led {
		parts[col] = opposite(quo(rows[n][free], rows[n][col]))
	}
	m := ring{parts[0], num{parts[1], parts[2]}, parts[3]}
	if m.empty() {
		return ring{}, false
	}
	return m.formed(), true
}

// reduced eliminates, and answers the columns that the rows lead with.
func reduced(rows [][4]*big.Rat) (led []int) {
	for col := 0; col < 4; col++ {
		found := -1
		for n := len(led); n < len(rows); n++ {
			if rows[n][col].Sign() != 0 {
				found = n
			}
		}
		if found < 0 {
			continue
		}
		first := len(led)
		rows[first], rows[found] = rows[found], rows[first]
		for n := range rows {
			if n == first || rows[n][col].Sign() == 0 {
				continue
			}
			by := quo(rows[n][col], rows[first][col])
			for m := range rows[n] {
				rows[n][m] = minus(rows[n][m], times(by, rows[first][m]))
			}
		}
		led = append(led, col)
	}
	return led
}

// chart is a map by math/big, or four numbers that stand for one.
type chart struct {
	a, b, c, d num
	turns      bool
}

func charted(a, b, c, d int64) chart {
	return chart{a: in(a, 0), b: in(b, 0), c: in(c, 0), d: in(d, 0)}
}

func still() chart { return charted(1, 0, 0, 1) }

func slide(b num) chart { return chart{a: in(1, 0), b: b, c: in(0, 0), d: in(1, 0)} }

func (m chart) turned() chart {
	m.turns = !m.turns
	return m
}

func (m chart) det() num { return m.a.times(m.d).minus(m.b.times(m.c)) }

// formed divides by c or d, as chapter 8 says.
func (m chart) formed() chart {
	by := m.c
	if by.zero() {
		by = m.d
	}
	return chart{m.a.over(by), m.b.over(by), m.c.over(by), m.d.over(by), m.turns}
}

func (m chart) mob() api.Mob {
	return api.Mob{A: m.a.gauss(), B: m.b.gauss(), C: m.c.gauss(), D: m.d.gauss(), Turns: m.turns}
}

func (m chart) fits() bool { return m.a.fits() && m.b.fits() && m.c.fits() && m.d.fits() }

func (m chart) conj() chart { return chart{m.a.conj(), m.b.conj(), m.c.conj(), m.d.conj(), m.turns} }

// behind multiplies the matrices.
func (m chart) behind(n chart) chart {
	turns := m.turns != n.turns
	if m.turns {
		n = n.conj()
	}
	return chart{
		m.a.times(n.a).plus(m.b.times(n.c)), m.a.times(n.b).plus(m.b.times(n.d)),
		m.c.times(n.a).plus(m.d.times(n.c)), m.c.times(n.b).plus(m.d.times(n.d)), turns,
	}.formed()
}

// over is the turning, by the centre m and the radius squared s of a circle:
// z to m + s / conj(z - m); of a line by what mirrored does to 0 and to 1.
func (k ring) over() chart {
	if k.line() {
		b := k.mirrored(in(0, 0))
		return chart{k.mirrored(in(1, 0)).minus(b), b, in(0, 0), in(1, 0), true}
	}
	m := k.centre()
	return chart{m, real(minus(k.square(), m.norm())), in(1, 0), m.conj().neg(), true}
}

// want wants the circle, or that it is too big.
func want(t *testing.T, what string, got api.Circle, e api.Errno, wanted ring) {
	t.Helper()
	if !wanted.fits() {
		wantNone(t, what, got, e, api.ErrBig)
		return
	}
	if got != wanted.circle() || e != api.OK {
		t.Fatalf("%s is %s, %v, want %s", what, brief(got), e, brief(wanted.circle()))
	}
}

func wantPoint(t *testing.T, what string, got api.Point, e api.Errno, wanted spot) {
	t.Helper()
	if !wanted.fits() {
		wantNone(t, what, got, e, api.ErrBig)
		return
	}
	if got != wanted.point() || e != api.OK {
		t.Fatalf("%s is %s, %v, want %s", what, briefPoint(got), e, briefPoint(wanted.point()))
	}
}

func wantMap(t *testing.T, what string, got api.Mob, e api.Errno, wanted chart) {
	t.Helper()
	if !wanted.fits() {
		wantNone(t, what, got, e, api.ErrBig)
		return
	}
	if got != wanted.mob() || e != api.OK {
		t.Fatalf("%s is %s, %v, want %s", what, briefMap(got), e, briefMap(wanted.mob()))
	}
}

// wantNone wants an error, and what is zero beside it.
func wantNone[T comparable](t *testing.T, what string, got T, e, wanted api.Errno) {
	t.Helper()
	var zero T
	if got != zero || e != wanted {
		t.Fatalf("%s: %v, want nothing and %v", what, e, wanted)
	}
}

// must is for calls that refuse nothing here.
func must[T any](t *testing.T) func(x T, e api.Errno) T {
	return func(x T, e api.Errno) T {
		t.Helper()
		if e != api.OK {
			t.Fatal(e)
		}
		return x
	}
}

// tally counts what was seen, so that a test can tell what it did not see.
type tally map[string]int

func (s tally) least(t *testing.T, count int, names ...string) {
	t.Helper()
	for _, name := range names {
		if s[name] < count {
			t.Errorf("%s: seen just %d times", name, s[name])
		}
	}
}

// fit counts what fits and what is too big.
func (s tally) fit(fits bool) {
	if fits {
		s["fits"]++
	} else {
		s["too big"]++
	}
}

func briefFrac(x api.Frac) string {
	s := bigOf(x.Num).String() + "/" + bigOf(x.Den).String()
	return s[:min(len(s), 30)]
}

func briefNum(z api.Gauss) string { return "(" + briefFrac(z.Re) + ", " + briefFrac(z.Im) + ")" }

func briefPoint(p api.Point) string {
	if p.Inf {
		return "infinity"
	}
	return briefNum(p.Z)
}

func brief(c api.Circle) string {
	return "circle " + briefFrac(c.A) + briefNum(c.B) + briefFrac(c.C)
}

func briefMap(m api.Mob) string {
	s := "map "
	if m.Turns {
		s = "turn "
	}
	return s + briefNum(m.A) + briefNum(m.B) + briefNum(m.C) + briefNum(m.D)
}

func briefRings(l ...ring) string {
	s := ""
	for _, k := range l {
		s += " " + brief(k.circle())
	}
	return s
}
