package grid_test

import (
	"fmt"
	"math/big"
	"testing"

	"tracery/api"
	"tracery/grid"
)

// What follows goes by the document's words and math/big, not by the packages
// that are tested.

func whole(n *big.Int) api.Whole { return api.Whole{Neg: n.Sign() < 0, Mag: string(n.Bytes())} }

func fraction(r *big.Rat) api.Frac { return api.Frac{Num: whole(r.Num()), Den: whole(r.Denom())} }

func rat(num, den int64) *big.Rat { return big.NewRat(num, den) }

func none() *big.Rat { return new(big.Rat) }

func one() *big.Rat { return rat(1, 1) }

func ofInt(n *big.Int) *big.Rat { return new(big.Rat).SetInt(n) }

func ratio(num, den *big.Int) *big.Rat { return new(big.Rat).SetFrac(num, den) }

func under(n *big.Int) *big.Rat { return ratio(big.NewInt(1), n) }

func plus(x, y *big.Rat) *big.Rat { return new(big.Rat).Add(x, y) }

func minus(x, y *big.Rat) *big.Rat { return new(big.Rat).Sub(x, y) }

func times(x, y *big.Rat) *big.Rat { return new(big.Rat).Mul(x, y) }

func quo(x, y *big.Rat) *big.Rat { return new(big.Rat).Quo(x, y) }

func opposite(x *big.Rat) *big.Rat { return new(big.Rat).Neg(x) }

func upTo(x *big.Rat) bool {
	return len(x.Num().Bytes()) <= api.MaxWhole && len(x.Denom().Bytes()) <= api.MaxWhole
}

// twos is 2 to the power n.
func twos(n uint) *big.Int { return new(big.Int).Lsh(big.NewInt(1), n) }

func more(n *big.Int, by int64) *big.Int { return new(big.Int).Add(n, big.NewInt(by)) }

// top is the greatest number of a fraction, 256 to the power 1024 less 1; past
// is the next one.
func top() *big.Int { return more(past(), -1) }

func past() *big.Int { return twos(8 * api.MaxWhole) }

// num is an exact complex number by math/big.
type num struct{ re, im *big.Rat }

func in(re, im int64) num { return num{rat(re, 1), rat(im, 1)} }

func parts(a, b, c, d int64) num { return num{rat(a, b), rat(c, d)} }

func along(x *big.Rat) num { return num{x, none()} }

func upward(x *big.Rat) num { return num{none(), x} }

func (z num) gauss() api.Gauss { return api.Gauss{Re: fraction(z.re), Im: fraction(z.im)} }

func (z num) fits() bool { return upTo(z.re) && upTo(z.im) }

func (z num) zero() bool { return z.re.Sign() == 0 && z.im.Sign() == 0 }

func (z num) plus(w num) num { return num{plus(z.re, w.re), plus(z.im, w.im)} }

func (z num) minus(w num) num { return num{minus(z.re, w.re), minus(z.im, w.im)} }

func (z num) neg() num { return num{opposite(z.re), opposite(z.im)} }

func (z num) conj() num { return num{z.re, opposite(z.im)} }

func (z num) scaled(by *big.Rat) num { return num{times(z.re, by), times(z.im, by)} }

func (z num) norm() *big.Rat { return plus(times(z.re, z.re), times(z.im, z.im)) }

func (z num) times(w num) num {
	return num{minus(times(z.re, w.re), times(z.im, w.im)), plus(times(z.re, w.im), times(z.im, w.re))}
}

func (z num) over(w num) num { return z.times(w.conj()).scaled(new(big.Rat).Inv(w.norm())) }

// spot is a point by math/big.
type spot struct {
	inf bool
	z   num
}

func far() spot { return spot{inf: true} }

func at(z num) spot { return spot{z: z} }

func on(re, im int64) spot { return at(in(re, im)) }

func (p spot) point() api.Point {
	if p.inf {
		return api.Point{Inf: true}
	}
	return api.Point{Z: p.z.gauss()}
}

func (p spot) fits() bool { return p.inf || p.z.fits() }

func (p spot) conj() spot {
	if p.inf {
		return p
	}
	return at(p.z.conj())
}

func (p spot) same(q spot) bool {
	if p.inf || q.inf {
		return p.inf == q.inf
	}
	return p.z.minus(q.z).zero()
}

// unlike answers the places of the first point, the first one unlike to it, and
// so on.
func unlike(l []spot) []int {
	var places []int
	for k, p := range l {
		fresh := true
		for _, n := range places {
			fresh = fresh && !p.same(l[n])
		}
		if fresh {
			places = append(places, k)
		}
	}
	return places
}

// four is a square's corners.
type four [4]spot

// ratio is DOC.md's formula and its limits; it is not there, if three of the
// four are the same.
func (l four) ratio() (spot, bool) {
	a, b, c, d := l[0], l[1], l[2], l[3]
	sides, ends, across := a.same(b) || c.same(d), b.same(c) || d.same(a), a.same(c) || b.same(d)
	switch {
	case sides && ends, sides && across, ends && across:
		return spot{}, false
	case sides:
		return on(0, 0), true
	case ends:
		return far(), true
	case across:
		return on(1, 0), true
	case a.inf:
		return at(d.z.minus(c.z).over(b.z.minus(c.z))), true
	case b.inf:
		return at(d.z.minus(c.z).over(d.z.minus(a.z))), true
	case c.inf:
		return at(b.z.minus(a.z).over(d.z.minus(a.z))), true
	case d.inf:
		return at(b.z.minus(a.z).over(b.z.minus(c.z))), true
	}
	return at(a.z.minus(b.z).times(c.z.minus(d.z)).over(b.z.minus(c.z).times(d.z.minus(a.z)))), true
}

// ring is a circle by math/big, or three numbers that stand for one.
type ring struct {
	a *big.Rat
	b num
	c *big.Rat
}

// about is the circle |z - centre|^2 = square.
func about(centre num, square *big.Rat) ring {
	return ring{one(), centre.conj().neg(), minus(centre.norm(), square)}
}

func (k ring) circle() api.Circle {
	return api.Circle{A: fraction(k.a), B: k.b.gauss(), C: fraction(k.c)}
}

func (k ring) fits() bool { return upTo(k.a) && k.b.fits() && upTo(k.c) }

// formed divides as chapter 11 says.
func (k ring) formed() ring {
	by := k.a
	if by.Sign() == 0 {
		by = k.b.re
	}
	if by.Sign() == 0 {
		by = k.b.im
	}
	by = new(big.Rat).Inv(by)
	return ring{times(k.a, by), k.b.scaled(by), times(k.c, by)}
}

func (k ring) holds(p spot) bool {
	if p.inf {
		return k.a.Sign() == 0
	}
	twice := times(rat(2, 1), k.b.times(p.z).re)
	return plus(plus(times(k.a, p.z.norm()), twice), k.c).Sign() == 0
}

// equation is what is asked of a, both parts of b, and c to go through p.
func (p spot) equation() [4]*big.Rat {
	if p.inf {
		return [4]*big.Rat{one(), none(), none(), none()}
	}
	two := p.z.conj().scaled(rat(2, 1))
	return [4]*big.Rat{p.z.norm(), two.re, two.im, one()}
}

// solved is the one circle through three unlike points: each number is, but for
// its sign, the determinant of the equations without that number.
func solved(p, q, r spot) ring {
	rows := [3][4]*big.Rat{p.equation(), q.equation(), r.equation()}
	var l [4]*big.Rat
	for k := range l {
		var m [3][3]*big.Rat
		for n, row := range rows {
			left := append(append([]*big.Rat{}, row[:k]...), row[k+1:]...)
			m[n] = [3]*big.Rat{left[0], left[1], left[2]}
		}
		l[k] = none()
		for n := range 3 {
			i, j := (n+1)%3, (n+2)%3
			minor := minus(times(m[1][i], m[2][j]), times(m[1][j], m[2][i]))
			l[k] = plus(l[k], times(m[0][n], minor))
		}
		if k%2 == 1 {
			l[k] = opposite(l[k])
		}
	}
	return ring{l[0], num{l[1], l[2]}, l[3]}.formed()
}

// circle is the one on which all four are, if there is one.
func (l four) circle() (ring, bool) {
	places := unlike(l[:])
	if len(places) < 3 {
		return ring{}, false
	}
	k := solved(l[places[0]], l[places[1]], l[places[2]])
	for _, p := range l {
		if !k.holds(p) {
			return ring{}, false
		}
	}
	return k, true
}

// chart is a map by math/big, or four numbers that stand for one.
type chart struct {
	a, b, c, d num
	turns      bool
}

func charted(a, b, c, d int64) chart {
	return chart{a: in(a, 0), b: in(b, 0), c: in(c, 0), d: in(d, 0)}
}

func still() chart { return charted(1, 0, 0, 1) }

func stretch(a num) chart { return chart{a: a, b: in(0, 0), c: in(0, 0), d: in(1, 0)} }

func slide(b num) chart { return chart{a: in(1, 0), b: b, c: in(0, 0), d: in(1, 0)} }

func (m chart) turned() chart {
	m.turns = !m.turns
	return m
}

// formed divides by c or d, as chapter 8 says.
func (m chart) formed() chart {
	by := m.c
	if by.zero() {
		by = m.d
	}
	return chart{m.a.over(by), m.b.over(by), m.c.over(by), m.d.over(by), m.turns}
}

func (m chart) det() num { return m.a.times(m.d).minus(m.b.times(m.c)) }

func (m chart) mob() api.Mob {
	return api.Mob{A: m.a.gauss(), B: m.b.gauss(), C: m.c.gauss(), D: m.d.gauss(), Turns: m.turns}
}

func (m chart) fits() bool { return m.a.fits() && m.b.fits() && m.c.fits() && m.d.fits() }

// at goes by the words of DOC.md.
func (m chart) at(p spot) spot {
	if p.inf {
		if m.c.zero() {
			return far()
		}
		return at(m.a.over(m.c))
	}
	w := p.z
	if m.turns {
		w = w.conj()
	}
	below := m.c.times(w).plus(m.d)
	if below.zero() {
		return far()
	}
	return at(m.a.times(w).plus(m.b).over(below))
}

// behind and inverse are for maps that do not turn.
func (m chart) behind(n chart) chart {
	return chart{
		a: m.a.times(n.a).plus(m.b.times(n.c)), b: m.a.times(n.b).plus(m.b.times(n.d)),
		c: m.c.times(n.a).plus(m.d.times(n.c)), d: m.c.times(n.b).plus(m.d.times(n.d)),
	}
}

func (m chart) inverse() chart { return chart{a: m.d, b: m.b.neg(), c: m.c.neg(), d: m.a} }

// level sends three unlike points to 0, 1 and infinity.
func level(p, q, r spot) chart {
	one, zero := in(1, 0), in(0, 0)
	switch {
	case p.inf:
		return chart{a: zero, b: q.z.minus(r.z), c: one, d: r.z.neg()}
	case q.inf:
		return chart{a: one, b: p.z.neg(), c: one, d: r.z.neg()}
	case r.inf:
		return chart{a: one, b: p.z.neg(), c: zero, d: q.z.minus(p.z)}
	}
	s, t := q.z.minus(r.z), q.z.minus(p.z)
	return chart{a: s, b: s.times(p.z).neg(), c: t, d: t.times(r.z).neg()}
}

// lattice is a grid by math/big, its points in their order.
type lattice struct {
	w, h int
	l    []spot
}

func laid(at0, right, up num, w, h int) lattice {
	g := lattice{w: w, h: h}
	for j := range h + 1 {
		for i := range w + 1 {
			g.l = append(g.l, at(at0.plus(right.scaled(rat(int64(i), 1))).plus(up.scaled(rat(int64(j), 1)))))
		}
	}
	return g
}

func listed(w, h int, l ...spot) lattice { return lattice{w, h, l} }

func (g lattice) at(i, j int) spot { return g.l[j*(g.w+1)+i] }

func (g lattice) four(i, j int) four {
	return four{g.at(i, j), g.at(i+1, j), g.at(i+1, j+1), g.at(i, j+1)}
}

func (g lattice) points() []api.Point {
	l := make([]api.Point, 0, len(g.l))
	for _, p := range g.l {
		l = append(l, p.point())
	}
	return l
}

func (g lattice) fits() bool {
	for _, p := range g.l {
		if !p.fits() {
			return false
		}
	}
	return true
}

func (g lattice) image(m chart) lattice {
	o := lattice{w: g.w, h: g.h}
	for _, p := range g.l {
		o.l = append(o.l, m.at(p))
	}
	return o
}

// with answers the lattice with another point in one place.
func (g lattice) with(k int, p spot) lattice {
	g.l = append([]spot{}, g.l...)
	g.l[k] = p
	return g
}

func (g lattice) turned() lattice {
	o := lattice{w: g.h, h: g.w}
	for j := range o.h + 1 {
		for i := range o.w + 1 {
			o.l = append(o.l, g.at(g.w-j, i))
		}
	}
	return o
}

func (g lattice) part(i, j, w, h int) lattice {
	o := lattice{w: w, h: h}
	for n := range h + 1 {
		for m := range w + 1 {
			o.l = append(o.l, g.at(i+m, j+n))
		}
	}
	return o
}

// even is the chapter's: all squares have a ratio, and the same one.
func (g lattice) even() (spot, bool) {
	first, _ := g.four(0, 0).ratio()
	for j := range g.h {
		for i := range g.w {
			if r, is := g.four(i, j).ratio(); !is || !r.same(first) {
				return spot{}, false
			}
		}
	}
	return first, true
}

// to is the map that sends all of g's points to o's, if there is one.
func (g lattice) to(o lattice) (chart, bool) {
	places := unlike(g.l)
	if g.w != o.w || g.h != o.h || len(places) < 3 {
		return chart{}, false
	}
	i, j, k := places[0], places[1], places[2]
	if len(unlike([]spot{o.l[i], o.l[j], o.l[k]})) < 3 {
		return chart{}, false
	}
	m := level(o.l[i], o.l[j], o.l[k]).inverse().behind(level(g.l[i], g.l[j], g.l[k])).formed()
	for n, p := range g.l {
		if !m.at(p).same(o.l[n]) {
			return chart{}, false
		}
	}
	return m, true
}

// grid is for lattices that fit.
func (g lattice) grid(t *testing.T) *grid.Grid {
	t.Helper()
	made, e := grid.Of(g.w, g.h, g.points()...)
	if e != api.OK || made == nil {
		t.Fatalf("a grid of %d by %d: %v", g.w, g.h, e)
	}
	return made
}

// wantGrid goes over all points of a grid, by Point and by All.
func wantGrid(t *testing.T, what string, got *grid.Grid, e api.Errno, wanted lattice) {
	t.Helper()
	if got == nil || e != api.OK {
		t.Fatalf("%s is refused: %v", what, e)
	}
	if w, h := got.Size(); w != wanted.w || h != wanted.h {
		t.Fatalf("%s is %d by %d, want %d by %d", what, w, h, wanted.w, wanted.h)
	}
	points, n := wanted.points(), 0
	for place, p := range got.All() {
		q, e := got.Point(place[0], place[1])
		if n >= len(points) || place != [2]int{n % (wanted.w + 1), n / (wanted.w + 1)} || p != points[n] || q != p || e != api.OK {
			t.Fatalf("%s has at %v, %d, %s, and by Point %s, %v", what, place, n, brief(p), brief(q), e)
		}
		n++
	}
	if n != len(points) {
		t.Fatalf("%s tells %d points, want %d", what, n, len(points))
	}
}

func wantNoGrid(t *testing.T, what string, got *grid.Grid, e, wanted api.Errno) {
	t.Helper()
	if got != nil || e != wanted {
		t.Fatalf("%s: %v, nothing beside it: %v; want %v", what, e, got == nil, wanted)
	}
}

// brief tells an answer so that it can be read.
func brief(x any) string {
	switch v := x.(type) {
	case api.Frac:
		s := new(big.Int).SetBytes([]byte(v.Num.Mag)).String() + "/" + new(big.Int).SetBytes([]byte(v.Den.Mag)).String()
		if v.Num.Neg {
			s = "-" + s
		}
		return s[:min(len(s), 30)]
	case api.Gauss:
		return "(" + brief(v.Re) + ", " + brief(v.Im) + ")"
	case api.Point:
		if v.Inf {
			return "infinity"
		}
		return brief(v.Z)
	case api.Circle:
		return "circle " + brief(v.A) + brief(v.B) + brief(v.C)
	case api.Mob:
		return fmt.Sprint("map ", v.Turns, brief(v.A), brief(v.B), brief(v.C), brief(v.D))
	case [4]api.Point:
		return brief(v[0]) + brief(v[1]) + brief(v[2]) + brief(v[3])
	}
	return fmt.Sprint(x)
}

// want wants an answer that can be held against another one by ==.
func want[T comparable](t *testing.T, what string, got T, e api.Errno, wanted T) {
	t.Helper()
	if got != wanted || e != api.OK {
		t.Fatalf("%s is %s, %v, want %s", what, brief(got), e, brief(wanted))
	}
}

// wantNone wants an error, and what is zero beside it.
func wantNone[T comparable](t *testing.T, what string, got T, e, wanted api.Errno) {
	t.Helper()
	var zero T
	if got != zero || e != wanted {
		t.Fatalf("%s is %s, %v, want nothing, %v", what, brief(got), e, wanted)
	}
}

// tally counts what was seen, so that a test can tell what it did not see.
type tally map[string]int

func (s tally) least(t *testing.T, count int, names ...string) {
	t.Helper()
	for _, name := range names {
		if s[name] < count {
			t.Errorf("%s: seen just %d times", name, s[name])
		}
	}
}
