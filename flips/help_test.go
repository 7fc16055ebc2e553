package flips_test

import (
	"fmt"
	"math/big"
	"slices"
	"testing"

	"tracery/api"
	"tracery/nets"
)

// What follows goes by the document's words and math/big, not by the packages
// that are tested.

func whole(n *big.Int) api.Whole { return api.Whole{Neg: n.Sign() < 0, Mag: string(n.Bytes())} }

func fraction(r *big.Rat) api.Frac { return api.Frac{Num: whole(r.Num()), Den: whole(r.Denom())} }

func rat(num, den int64) *big.Rat { return big.NewRat(num, den) }

func none() *big.Rat { return new(big.Rat) }

func ofInt(n *big.Int) *big.Rat { return new(big.Rat).SetInt(n) }

func ratio(num, den *big.Int) *big.Rat { return new(big.Rat).SetFrac(num, den) }

func under(n *big.Int) *big.Rat { return ratio(big.NewInt(1), n) }

func plus(x, y *big.Rat) *big.Rat { return new(big.Rat).Add(x, y) }

func minus(x, y *big.Rat) *big.Rat { return new(big.Rat).Sub(x, y) }

func times(x, y *big.Rat) *big.Rat { return new(big.Rat).Mul(x, y) }

func opposite(x *big.Rat) *big.Rat { return new(big.Rat).Neg(x) }

func upTo(x *big.Rat) bool {
	return len(x.Num().Bytes()) <= api.MaxWhole && len(x.Denom().Bytes()) <= api.MaxWhole
}

// twos is 2 to the power n.
func twos(n uint) *big.Int { return new(big.Int).Lsh(big.NewInt(1), n) }

func more(n *big.Int, by int64) *big.Int { return new(big.Int).Add(n, big.NewInt(by)) }

// top is the greatest number of a fraction, 256 to the power 1024 less 1; past
// is the next one.
func top() *big.Int { return more(past(), -1) }

func past() *big.Int { return twos(8 * api.MaxWhole) }

// num is an exact complex number by math/big.
type num struct{ re, im *big.Rat }

func in(re, im int64) num { return num{rat(re, 1), rat(im, 1)} }

func parts(a, b, c, d int64) num { return num{rat(a, b), rat(c, d)} }

func along(x *big.Rat) num { return num{x, none()} }

func (z num) gauss() api.Gauss { return api.Gauss{Re: fraction(z.re), Im: fraction(z.im)} }

func (z num) fits() bool { return upTo(z.re) && upTo(z.im) }

func (z num) zero() bool { return z.re.Sign() == 0 && z.im.Sign() == 0 }

func (z num) same(w num) bool { return z.minus(w).zero() }

func (z num) plus(w num) num { return num{plus(z.re, w.re), plus(z.im, w.im)} }

func (z num) minus(w num) num { return num{minus(z.re, w.re), minus(z.im, w.im)} }

func (z num) neg() num { return num{opposite(z.re), opposite(z.im)} }

func (z num) conj() num { return num{z.re, opposite(z.im)} }

func (z num) scaled(by *big.Rat) num { return num{times(z.re, by), times(z.im, by)} }

func (z num) norm() *big.Rat { return plus(times(z.re, z.re), times(z.im, z.im)) }

func (z num) times(w num) num {
	return num{minus(times(z.re, w.re), times(z.im, w.im)), plus(times(z.re, w.im), times(z.im, w.re))}
}

func (z num) over(w num) num { return z.times(w.conj()).scaled(new(big.Rat).Inv(w.norm())) }

// goes tells whether the number goes with labels.
func (z num) goes(labels ...num) bool { return !z.zero() && !slices.ContainsFunc(labels, z.same) }

// spot is a point by math/big.
type spot struct {
	inf bool
	z   num
}

func far() spot { return spot{inf: true} }

func at(z num) spot { return spot{z: z} }

func on(re, im int64) spot { return at(in(re, im)) }

func (p spot) point() api.Point {
	if p.inf {
		return api.Point{Inf: true}
	}
	return api.Point{Z: p.z.gauss()}
}

func (p spot) fits() bool { return p.inf || p.z.fits() }

func (p spot) same(q spot) bool {
	if p.inf || q.inf {
		return p.inf == q.inf
	}
	return p.z.same(q.z)
}

// four is a square's corners.
type four [4]spot

// ratio is DOC.md's formula and its limits; it wants unlike corners.
func (l four) ratio() num {
	a, b, c, d := l[0], l[1], l[2], l[3]
	switch {
	case a.inf:
		return d.z.minus(c.z).over(b.z.minus(c.z))
	case b.inf:
		return d.z.minus(c.z).over(d.z.minus(a.z))
	case c.inf:
		return b.z.minus(a.z).over(d.z.minus(a.z))
	case d.inf:
		return b.z.minus(a.z).over(b.z.minus(c.z))
	}
	return a.z.minus(b.z).times(c.z.minus(d.z)).over(b.z.minus(c.z).times(d.z.minus(a.z)))
}

// unlike tells whether no two are the same.
func unlike(l ...spot) bool {
	for k, p := range l {
		if slices.ContainsFunc(l[:k], p.same) {
			return false
		}
	}
	return true
}

// fits tells whether the four are unlike, and a square of this ratio.
func (l four) fits(k num) bool { return unlike(l[:]...) && l.ratio().same(k) }

// chart is a map that does not turn by math/big, or four numbers that stand for
// one.
type chart struct{ a, b, c, d num }

func charted(a, b, c, d int64) chart { return chart{in(a, 0), in(b, 0), in(c, 0), in(d, 0)} }

func still() chart { return charted(1, 0, 0, 1) }

func stretch(a num) chart { return chart{a, in(0, 0), in(0, 0), in(1, 0)} }

func slide(b num) chart { return chart{in(1, 0), b, in(0, 0), in(1, 0)} }

// formed divides by c or d, as chapter 8 says.
func (m chart) formed() chart {
	by := m.c
	if by.zero() {
		by = m.d
	}
	return chart{m.a.over(by), m.b.over(by), m.c.over(by), m.d.over(by)}
}

func (m chart) det() num { return m.a.times(m.d).minus(m.b.times(m.c)) }

func (m chart) mob() api.Mob {
	return api.Mob{A: m.a.gauss(), B: m.b.gauss(), C: m.c.gauss(), D: m.d.gauss()}
}

func (m chart) fits() bool { return m.a.fits() && m.b.fits() && m.c.fits() && m.d.fits() }

// at goes by the words of DOC.md.
func (m chart) at(p spot) spot {
	if p.inf {
		if m.c.zero() {
			return far()
		}
		return at(m.a.over(m.c))
	}
	below := m.c.times(p.z).plus(m.d)
	if below.zero() {
		return far()
	}
	return at(m.a.times(p.z).plus(m.b).over(below))
}

func (m chart) inverse() chart { return chart{m.d, m.b.neg(), m.c.neg(), m.a} }

// other is the second point that a map leaves where it is, p being the first one.
func (m chart) other(p spot) spot {
	switch {
	case p.inf:
		return at(m.b.over(m.d.minus(m.a)))
	case m.c.zero():
		return far()
	}
	return at(m.a.minus(m.d).over(m.c).minus(p.z))
}

// behind is m done behind n.
func (m chart) behind(n chart) chart {
	return chart{
		m.a.times(n.a).plus(m.b.times(n.c)), m.a.times(n.b).plus(m.b.times(n.d)),
		m.c.times(n.a).plus(m.d.times(n.c)), m.c.times(n.b).plus(m.d.times(n.d)),
	}
}

// level sends three unlike points to 0, 1 and infinity.
func level(p, q, r spot) chart {
	one, zero := in(1, 0), in(0, 0)
	switch {
	case p.inf:
		return chart{zero, q.z.minus(r.z), one, r.z.neg()}
	case q.inf:
		return chart{one, p.z.neg(), one, r.z.neg()}
	case r.inf:
		return chart{one, p.z.neg(), zero, q.z.minus(p.z)}
	}
	s, t := q.z.minus(r.z), q.z.minus(p.z)
	return chart{s, s.times(p.z).neg(), t, t.times(r.z).neg()}
}

// corner is the point r, p, q and s being unlike, by which p, q, r, s have the
// ratio k: where p, q and s are 0, 1 and infinity that is 1 / (1 - r).
func corner(p, q, s spot, k num) spot {
	r := k.minus(in(1, 0)).over(k)
	return level(p, q, s).inverse().at(at(r))
}

func gausses(l []num) []api.Gauss {
	out := make([]api.Gauss, 0, len(l))
	for _, z := range l {
		out = append(out, z.gauss())
	}
	return out
}

func points(l []spot) []api.Point {
	out := make([]api.Point, 0, len(l))
	for _, p := range l {
		out = append(out, p.point())
	}
	return out
}

// images are where the map sends points.
func images(m chart, l []spot) []spot {
	var out []spot
	for _, p := range l {
		out = append(out, m.at(p))
	}
	return out
}

func allFit(l []spot) bool { return !slices.ContainsFunc(l, func(p spot) bool { return !p.fits() }) }

// row is a row by math/big.
type row struct {
	points []spot
	labels []num
}

// refusals are the errors that come up, in order.
type refusals []api.Errno

func (l refusals) first() api.Errno {
	if len(l) == 0 {
		return api.OK
	}
	return l[0]
}

// flipped goes on behind corners that are too big, so that one can tell what
// would have come up behind them.
func (x row) flipped(by num, first spot) ([]spot, refusals) {
	l := []spot{first}
	var no refusals
	for k, a := range x.labels {
		p, q, s := x.points[k], x.points[k+1], l[k]
		if !unlike(p, q, s) {
			return nil, append(no, api.ErrNet)
		}
		r := corner(p, q, s, a.over(by))
		if !r.fits() {
			no = append(no, api.ErrBig)
		}
		l = append(l, r)
	}
	return l, no
}

// step leaves unlike p and q where they are, and sends another point to its
// corner: three points tell a map.
func step(p, q spot, k num) chart {
	s := on(0, 0)
	for !unlike(p, q, s) {
		s.z = s.z.plus(in(1, 0))
	}
	return level(p, q, corner(p, q, s, k)).inverse().behind(level(p, q, s)).formed()
}

// carried are what the first steps make together, one, two, and so on; nothing,
// if two points that follow each other are the same.
func (x row) carried(by num) ([]chart, refusals) {
	l := []chart{still()}
	var no refusals
	for k := range x.labels {
		if x.points[k].same(x.points[k+1]) {
			return nil, refusals{api.ErrNet}
		}
	}
	for k, a := range x.labels {
		m := step(x.points[k], x.points[k+1], a.over(by)).behind(l[k]).formed()
		if !m.fits() {
			no = append(no, api.ErrBig)
		}
		l = append(l, m)
	}
	return l, no
}

// edges are what a net is filled in from.
type edges struct {
	a, b        []num
	row, column []spot
}

func (s edges) sides() api.NetSides {
	return api.NetSides{A: gausses(s.a), B: gausses(s.b), Row: points(s.row), Column: points(s.column)}
}

func (s edges) turned() edges { return edges{a: s.b, b: s.a, row: s.column, column: s.row} }

func (s edges) image(m chart) edges {
	return edges{a: s.a, b: s.b, row: images(m, s.row), column: images(m, s.column)}
}

func (s edges) labels() []num { return slices.Concat(s.a, s.b) }

// filled goes row by row, and on behind corners that are too big.
func (s edges) filled() (mesh, refusals) {
	n := mesh{edges: s, rows: [][]spot{s.row}}
	var no refusals
	for j, b := range s.b {
		n.rows = append(n.rows, []spot{s.column[j+1]})
		for i, a := range s.a {
			p, q, s := n.rows[j][i], n.rows[j][i+1], n.rows[j+1][i]
			if !unlike(p, q, s) {
				return mesh{}, append(no, api.ErrNet)
			}
			r := corner(p, q, s, a.over(b))
			if !r.fits() {
				no = append(no, api.ErrBig)
			}
			n.rows[j+1] = append(n.rows[j+1], r)
		}
	}
	return n, no
}

// mesh is a net by math/big: the corner i, j is rows[j][i].
type mesh struct {
	edges
	rows [][]spot
}

// mesh is for edges by which nothing is refused.
func (s edges) mesh(t *testing.T) mesh {
	t.Helper()
	n, no := s.filled()
	if len(no) > 0 {
		t.Fatalf("no net: %v", no)
	}
	return n
}

func (n mesh) net(t *testing.T) *nets.Net {
	t.Helper()
	made, e := nets.New(n.sides())
	if e != api.OK || made == nil {
		t.Fatalf("a net of %d by %d: %v", len(n.a), len(n.b), e)
	}
	return made
}

// stages are the errors of the first row flipped, of the first column flipped,
// and of what they make.
type stages [3]refusals

func (l stages) first() api.Errno { return slices.Concat(l[:]...).first() }

// flipped answers the net flipped, as far as it can, and all errors.
func (n mesh) flipped(by num, first spot) (mesh, stages) {
	var no stages
	s := edges{a: n.a, b: n.b}
	s.row, no[0] = row{n.row, n.a}.flipped(by, first)
	s.column, no[1] = row{n.column, n.b}.flipped(by, first)
	if s.row == nil || s.column == nil {
		return mesh{}, no
	}
	o, no2 := s.filled()
	no[2] = no2
	return o, no
}

// besides are the squares between both nets, those along rows ahead.
func (n mesh) besides(o mesh) (along, up []four) {
	for j, row := range n.rows {
		for i := range row {
			if i > 0 {
				along = append(along, four{n.rows[j][i-1], n.rows[j][i], o.rows[j][i], o.rows[j][i-1]})
			}
			if j > 0 {
				up = append(up, four{n.rows[j-1][i], n.rows[j][i], o.rows[j][i], o.rows[j-1][i]})
			}
		}
	}
	return along, up
}

// beside goes by the chapter's words: whether the squares along rows fit, and
// those along columns. It wants nets with the same labels, and a number that goes
// with them.
func (n mesh) beside(o mesh, by num) (bool, bool) {
	across, upward := true, true
	along, up := n.besides(o)
	for k, l := range along {
		across = across && l.fits(n.a[k%len(n.a)].over(by))
	}
	for k, l := range up {
		upward = upward && l.fits(n.b[k/(len(n.a)+1)].over(by))
	}
	return across, upward
}

// wantNet goes over a net by all that tells of it.
func wantNet(t *testing.T, what string, got *nets.Net, e api.Errno, wanted mesh) {
	t.Helper()
	if got == nil || e != api.OK {
		t.Fatalf("%s is refused: %v", what, e)
	}
	w, h := got.Size()
	if w != len(wanted.a) || h != len(wanted.b) {
		t.Fatalf("%s is %d by %d, want %d by %d", what, w, h, len(wanted.a), len(wanted.b))
	}
	for place, p := range got.All() {
		if q := wanted.rows[place[1]][place[0]].point(); p != q {
			t.Fatalf("%s has at %v %s, want %s", what, place, brief(p), brief(q))
		}
	}
	s, e := got.Sides()
	x := wanted.sides()
	if e != api.OK || !slices.Equal(s.A, x.A) || !slices.Equal(s.B, x.B) || !slices.Equal(s.Row, x.Row) || !slices.Equal(s.Column, x.Column) {
		t.Fatalf("%s has other sides: %v", what, e)
	}
}

func wantNoNet(t *testing.T, what string, got *nets.Net, e, wanted api.Errno) {
	t.Helper()
	if got != nil || e != wanted {
		t.Fatalf("%s: %v, nothing beside it: %v; want %v", what, e, got == nil, wanted)
	}
}

// wantPoints wants a row.
func wantPoints(t *testing.T, what string, got []api.Point, e api.Errno, wanted []api.Point) {
	t.Helper()
	if e != api.OK || !slices.Equal(got, wanted) {
		t.Fatalf("%s is %s, %v, want %s", what, brief(got), e, brief(wanted))
	}
}

func wantNoPoints(t *testing.T, what string, got []api.Point, e, wanted api.Errno) {
	t.Helper()
	if len(got) > 0 || e != wanted {
		t.Fatalf("%s: %v, %d points beside it; want %v", what, e, len(got), wanted)
	}
}

// brief tells an answer so that it can be read.
func brief(x any) string {
	switch v := x.(type) {
	case api.Frac:
		s := new(big.Int).SetBytes([]byte(v.Num.Mag)).String() + "/" + new(big.Int).SetBytes([]byte(v.Den.Mag)).String()
		if v.Num.Neg {
			s = "-" + s
		}
		return s[:min(len(s), 30)]
	case api.Gauss:
		return "(" + brief(v.Re) + ", " + brief(v.Im) + ")"
	case api.Point:
		if v.Inf {
			return "infinity"
		}
		return brief(v.Z)
	case api.Mob:
		return fmt.Sprint("map ", v.Turns, brief(v.A), brief(v.B), brief(v.C), brief(v.D))
	case []api.Point:
		s := ""
		for _, p := range v[:min(len(v), 5)] {
			s += brief(p)
		}
		return s
	}
	return fmt.Sprint(x)
}

// want wants an answer that can be held against another one by ==.
func want[T comparable](t *testing.T, what string, got T, e api.Errno, wanted T) {
	t.Helper()
	if got != wanted || e != api.OK {
		t.Fatalf("%s is %s, %v, want %s", what, brief(got), e, brief(wanted))
	}
}

// wantNone wants an error, and what is zero beside it.
func wantNone[T comparable](t *testing.T, what string, got T, e, wanted api.Errno) {
	t.Helper()
	var zero T
	if got != zero || e != wanted {
		t.Fatalf("%s is %s, %v, want nothing, %v", what, brief(got), e, wanted)
	}
}

// tally counts what was seen, so that a test can tell what it did not see.
type tally map[string]int

func (s tally) least(t *testing.T, count int, names ...string) {
	t.Helper()
	for _, name := range names {
		if s[name] < count {
			t.Errorf("%s: seen just %d times", name, s[name])
		}
	}
}
