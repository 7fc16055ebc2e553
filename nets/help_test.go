package nets_test

import (
	"fmt"
	"math/big"
	"slices"
	"testing"

	"tracery/api"
	"tracery/nets"
)

// What follows goes by the document's words and math/big, not by the packages
// that are tested.

func whole(n *big.Int) api.Whole { return api.Whole{Neg: n.Sign() < 0, Mag: string(n.Bytes())} }

func fraction(r *big.Rat) api.Frac { return api.Frac{Num: whole(r.Num()), Den: whole(r.Denom())} }

func rat(num, den int64) *big.Rat { return big.NewRat(num, den) }

func none() *big.Rat { return new(big.Rat) }

func one() *big.Rat { return rat(1, 1) }

func ofInt(n *big.Int) *big.Rat { return new(big.Rat).SetInt(n) }

func ratio(num, den *big.Int) *big.Rat { return new(big.Rat).SetFrac(num, den) }

func under(n *big.Int) *big.Rat { return ratio(big.NewInt(1), n) }

func plus(x, y *big.Rat) *big.Rat { return new(big.Rat).Add(x, y) }

func minus(x, y *big.Rat) *big.Rat { return new(big.Rat).Sub(x, y) }

func times(x, y *big.Rat) *big.Rat { return new(big.Rat).Mul(x, y) }

func quo(x, y *big.Rat) *big.Rat { return new(big.Rat).Quo(x, y) }

func opposite(x *big.Rat) *big.Rat { return new(big.Rat).Neg(x) }

func upTo(x *big.Rat) bool {
	return len(x.Num().Bytes()) <= api.MaxWhole && len(x.Denom().Bytes()) <= api.MaxWhole
}

// twos is 2 to the power n.
func twos(n uint) *big.Int { return new(big.Int).Lsh(big.NewInt(1), n) }

func more(n *big.Int, by int64) *big.Int { return new(big.Int).Add(n, big.NewInt(by)) }

// top is the greatest number of a fraction, 256 to the power 1024 less 1; past
// is the next one.
func top() *big.Int { return more(past(), -1) }

func past() *big.Int { return twos(8 * api.MaxWhole) }

// num is an exact complex number by math/big.
type num struct{ re, im *big.Rat }

func in(re, im int64) num { return num{rat(re, 1), rat(im, 1)} }

func parts(a, b, c, d int64) num { return num{rat(a, b), rat(c, d)} }

func along(x *big.Rat) num { return num{x, none()} }

func upward(x *big.Rat) num { return num{none(), x} }

func (z num) gauss() api.Gauss { return api.Gauss{Re: fraction(z.re), Im: fraction(z.im)} }

func (z num) fits() bool { return upTo(z.re) && upTo(z.im) }

func (z num) zero() bool { return z.re.Sign() == 0 && z.im.Sign() == 0 }

func (z num) plus(w num) num { return num{plus(z.re, w.re), plus(z.im, w.im)} }

func (z num) minus(w num) num { return num{minus(z.re, w.re), minus(z.im, w.im)} }

func (z num) neg() num { return num{opposite(z.re), opposite(z.im)} }

func (z num) conj() num { return num{z.re, opposite(z.im)} }

func (z num) scaled(by *big.Rat) num { return num{times(z.re, by), times(z.im, by)} }

func (z num) norm() *big.Rat { return plus(times(z.re, z.re), times(z.im, z.im)) }

func (z num) times(w num) num {
	return num{minus(times(z.re, w.re), times(z.im, w.im)), plus(times(z.re, w.im), times(z.im, w.re))}
}

func (z num) over(w num) num { return z.times(w.conj()).scaled(new(big.Rat).Inv(w.norm())) }

// spot is a point by math/big.
type spot struct {
	inf bool
	z   num
}

func far() spot { return spot{inf: true} }

func at(z num) spot { return spot{z: z} }

func on(re, im int64) spot { return at(in(re, im)) }

func (p spot) point() api.Point {
	if p.inf {
		return api.Point{Inf: true}
	}
	return api.Point{Z: p.z.gauss()}
}

func (p spot) fits() bool { return p.inf || p.z.fits() }

func (p spot) conj() spot {
	if p.inf {
		return p
	}
	return at(p.z.conj())
}

func (p spot) same(q spot) bool {
	if p.inf || q.inf {
		return p.inf == q.inf
	}
	return p.z.minus(q.z).zero()
}

// four is a square's corners.
type four [4]spot

// ratio is DOC.md's formula and its limits; it is not there, if three of the
// four are the same.
func (l four) ratio() (spot, bool) {
	a, b, c, d := l[0], l[1], l[2], l[3]
	sides, ends, across := a.same(b) || c.same(d), b.same(c) || d.same(a), a.same(c) || b.same(d)
	switch {
	case sides && ends, sides && across, ends && across:
		return spot{}, false
	case sides:
		return on(0, 0), true
	case ends:
		return far(), true
	case across:
		return on(1, 0), true
	case a.inf:
		return at(d.z.minus(c.z).over(b.z.minus(c.z))), true
	case b.inf:
		return at(d.z.minus(c.z).over(d.z.minus(a.z))), true
	case c.inf:
		return at(b.z.minus(a.z).over(d.z.minus(a.z))), true
	case d.inf:
		return at(b.z.minus(a.z).over(b.z.minus(c.z))), true
	}
	return at(a.z.minus(b.z).times(c.z.minus(d.z)).over(b.z.minus(c.z).times(d.z.minus(a.z)))), true
}

// chart is a map by math/big, or four numbers that stand for one.
type chart struct {
	a, b, c, d num
	turns      bool
}

func charted(a, b, c, d int64) chart {
	return chart{a: in(a, 0), b: in(b, 0), c: in(c, 0), d: in(d, 0)}
}

func still() chart { return charted(1, 0, 0, 1) }

func stretch(a num) chart { return chart{a: a, b: in(0, 0), c: in(0, 0), d: in(1, 0)} }

func slide(b num) chart { return chart{a: in(1, 0), b: b, c: in(0, 0), d: in(1, 0)} }

func (m chart) turned() chart {
	m.turns = !m.turns
	return m
}

// formed divides by c or d, as chapter 8 says.
func (m chart) formed() chart {
	by := m.c
	if by.zero() {
		by = m.d
	}
	return chart{m.a.over(by), m.b.over(by), m.c.over(by), m.d.over(by), m.turns}
}

func (m chart) det() num { return m.a.times(m.d).minus(m.b.times(m.c)) }

func (m chart) mob() api.Mob {
	return api.Mob{A: m.a.gauss(), B: m.b.gauss(), C: m.c.gauss(), D: m.d.gauss(), Turns: m.turns}
}

func (m chart) fits() bool { return m.a.fits() && m.b.fits() && m.c.fits() && m.d.fits() }

// at goes by the words of DOC.md.
func (m chart) at(p spot) spot {
	if p.inf {
		if m.c.zero() {
			return far()
		}
		return at(m.a.over(m.c))
	}
	w := p.z
	if m.turns {
		w = w.conj()
	}
	below := m.c.times(w).plus(m.d)
	if below.zero() {
		return far()
	}
	return at(m.a.times(w).plus(m.b).over(below))
}

// inverse is for maps that do not turn.
func (m chart) inverse() chart { return chart{a: m.d, b: m.b.neg(), c: m.c.neg(), d: m.a} }

// level sends three unlike points to 0, 1 and infinity.
func level(p, q, r spot) chart {
	one, zero := in(1, 0), in(0, 0)
	switch {
	case p.inf:
		return chart{a: zero, b: q.z.minus(r.z), c: one, d: r.z.neg()}
	case q.inf:
		return chart{a: one, b: p.z.neg(), c: one, d: r.z.neg()}
	case r.inf:
		return chart{a: one, b: p.z.neg(), c: zero, d: q.z.minus(p.z)}
	}
	s, t := q.z.minus(r.z), q.z.minus(p.z)
	return chart{a: s, b: s.times(p.z).neg(), c: t, d: t.times(r.z).neg()}
}

// unlike tells whether no two are the same.
func unlike(l ...spot) bool {
	for k, p := range l {
		if slices.ContainsFunc(l[:k], p.same) {
			return false
		}
	}
	return true
}

// fits tells whether the four are the corners of a square of this ratio.
func (l four) fits(k num) bool {
	r, is := l.ratio()
	return is && unlike(l[:]...) && r.same(at(k))
}

// corner is the point r, p, q and s being unlike, by which p, q, r, s have the
// ratio k: where p, q and s are 0, 1 and infinity that is 1 / (1 - r).
func corner(p, q, s spot, k num) spot {
	r := k.minus(in(1, 0)).over(k)
	return level(p, q, s).inverse().at(at(r))
}

// edges are what a net is filled in from.
type edges struct {
	a, b        []num
	row, column []spot
}

func gausses(l []num) []api.Gauss {
	out := make([]api.Gauss, 0, len(l))
	for _, z := range l {
		out = append(out, z.gauss())
	}
	return out
}

func points(l []spot) []api.Point {
	out := make([]api.Point, 0, len(l))
	for _, p := range l {
		out = append(out, p.point())
	}
	return out
}

func (s edges) sides() api.NetSides {
	return api.NetSides{A: gausses(s.a), B: gausses(s.b), Row: points(s.row), Column: points(s.column)}
}

// mesh is a net by math/big: the corner i, j is rows[j][i].
type mesh struct {
	a, b []num
	rows [][]spot
}

func (n mesh) four(i, j int) four {
	return four{n.rows[j-1][i-1], n.rows[j-1][i], n.rows[j][i], n.rows[j][i-1]}
}

func (n mesh) ratio(i, j int) num { return n.a[i-1].over(n.b[j-1]) }

func (n mesh) edges() edges {
	s := edges{a: n.a, b: n.b, row: n.rows[0]}
	for _, row := range n.rows {
		s.column = append(s.column, row[0])
	}
	return s
}

// refusals are the errors that come up, with the squares where they do.
type refusal struct {
	i, j int
	e    api.Errno
}

// filled goes on behind corners that are too big, and beside squares that are
// none as far as it can, row by row: what comes up first is New's error.
func (s edges) filled() (mesh, []refusal) {
	n := mesh{a: s.a, b: s.b, rows: [][]spot{s.row}}
	var l []refusal
	for j := 1; j <= len(s.b); j++ {
		n.rows = append(n.rows, []spot{s.column[j]})
		for i := 1; i <= len(s.a); i++ {
			p, q, s := n.rows[j-1][i-1], n.rows[j-1][i], n.rows[j][i-1]
			if !unlike(p, q, s) {
				return mesh{}, append(l, refusal{i, j, api.ErrNet})
			}
			r := corner(p, q, s, n.ratio(i, j))
			if !r.fits() {
				l = append(l, refusal{i, j, api.ErrBig})
			}
			n.rows[j] = append(n.rows[j], r)
		}
	}
	return n, l
}

// mesh is for edges by which nothing is refused.
func (s edges) mesh(t *testing.T) mesh {
	t.Helper()
	n, l := s.filled()
	if len(l) > 0 {
		t.Fatalf("no net: %v", l)
	}
	return n
}

func (n mesh) net(t *testing.T) *nets.Net {
	t.Helper()
	made, e := nets.New(n.edges().sides())
	if e != api.OK || made == nil {
		t.Fatalf("a net of %d by %d: %v", len(n.a), len(n.b), e)
	}
	return made
}

func (n mesh) fits() bool {
	for _, row := range n.rows {
		for _, p := range row {
			if !p.fits() {
				return false
			}
		}
	}
	return true
}

func conjugates(l []num) []num {
	var out []num
	for _, z := range l {
		out = append(out, z.conj())
	}
	return out
}

func (n mesh) image(m chart) mesh {
	o := mesh{a: n.a, b: n.b}
	if m.turns {
		o.a, o.b = conjugates(n.a), conjugates(n.b)
	}
	for _, row := range n.rows {
		var images []spot
		for _, p := range row {
			images = append(images, m.at(p))
		}
		o.rows = append(o.rows, images)
	}
	return o
}

func (n mesh) turned() mesh {
	o := mesh{a: n.b, b: n.a}
	for i := range n.rows[0] {
		var row []spot
		for j := range n.rows {
			row = append(row, n.rows[j][i])
		}
		o.rows = append(o.rows, row)
	}
	return o
}

// wantNet goes over a net by all that tells of it.
func wantNet(t *testing.T, what string, got *nets.Net, e api.Errno, wanted mesh) {
	t.Helper()
	if got == nil || e != api.OK {
		t.Fatalf("%s is refused: %v", what, e)
	}
	w, h := got.Size()
	if w != len(wanted.a) || h != len(wanted.b) {
		t.Fatalf("%s is %d by %d, want %d by %d", what, w, h, len(wanted.a), len(wanted.b))
	}
	n := 0
	for place, p := range got.All() {
		q, e := got.At(place[0], place[1])
		if n > w+(w+1)*h || place != [2]int{n % (w + 1), n / (w + 1)} || p != wanted.rows[place[1]][place[0]].point() || q != p || e != api.OK {
			t.Fatalf("%s has at %v, %d, %s, and by At %s, %v", what, place, n, brief(p), brief(q), e)
		}
		n++
	}
	if n != (w+1)*(h+1) {
		t.Fatalf("%s tells %d corners, want %d", what, n, (w+1)*(h+1))
	}
	sides, e := got.Sides()
	wantSides(t, what, sides, e, wanted.edges().sides())
}

func wantSides(t *testing.T, what string, got api.NetSides, e api.Errno, wanted api.NetSides) {
	t.Helper()
	if e != api.OK || !slices.Equal(got.A, wanted.A) || !slices.Equal(got.B, wanted.B) || !slices.Equal(got.Row, wanted.Row) || !slices.Equal(got.Column, wanted.Column) {
		t.Fatalf("%s has other sides: %v", what, e)
	}
}

func wantNoNet(t *testing.T, what string, got *nets.Net, e, wanted api.Errno) {
	t.Helper()
	if got != nil || e != wanted {
		t.Fatalf("%s: %v, nothing beside it: %v; want %v", what, e, got == nil, wanted)
	}
}

// brief tells an answer so that it can be read.
func brief(x any) string {
	switch v := x.(type) {
	case api.Frac:
		s := new(big.Int).SetBytes([]byte(v.Num.Mag)).String() + "/" + new(big.Int).SetBytes([]byte(v.Den.Mag)).String()
		if v.Num.Neg {
			s = "-" + s
		}
		return s[:min(len(s), 30)]
	case api.Gauss:
		return "(" + brief(v.Re) + ", " + brief(v.Im) + ")"
	case api.Point:
		if v.Inf {
			return "infinity"
		}
		return brief(v.Z)
	case api.Mob:
		return fmt.Sprint("map ", v.Turns, brief(v.A), brief(v.B), brief(v.C), brief(v.D))
	case [3]api.Point:
		return brief(v[0]) + brief(v[1]) + brief(v[2])
	case [4]api.Point:
		return brief(v[0]) + brief(v[1]) + brief(v[2]) + brief(v[3])
	}
	return fmt.Sprint(x)
}

// want wants an answer that can be held against another one by ==.
func want[T comparable](t *testing.T, what string, got T, e api.Errno, wanted T) {
	t.Helper()
	if got != wanted || e != api.OK {
		t.Fatalf("%s is %s, %v, want %s", what, brief(got), e, brief(wanted))
	}
}

// wantNone wants an error, and what is zero beside it.
func wantNone[T comparable](t *testing.T, what string, got T, e, wanted api.Errno) {
	t.Helper()
	var zero T
	if got != zero || e != wanted {
		t.Fatalf("%s is %s, %v, want nothing, %v", what, brief(got), e, wanted)
	}
}

// tally counts what was seen, so that a test can tell what it did not see.
type tally map[string]int

func (s tally) least(t *testing.T, count int, names ...string) {
	t.Helper()
	for _, name := range names {
		if s[name] < count {
			t.Errorf("%s: seen just %d times", name, s[name])
		}
	}
}
