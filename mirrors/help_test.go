package mirrors_test

import (
	"math/big"
	"slices"
	"strings"
	"testing"

	"tracery/api"
	"tracery/mirrors"
)

// whole and fraction go by the document's words and math/big, not by the
// packages that are tested.
func whole(n *big.Int) api.Whole { return api.Whole{Neg: n.Sign() < 0, Mag: string(n.Bytes())} }

func small(n int64) api.Whole { return whole(big.NewInt(n)) }

func fraction(r *big.Rat) api.Frac { return api.Frac{Num: whole(r.Num()), Den: whole(r.Denom())} }

func over(num, den int64) api.Frac { return fraction(big.NewRat(num, den)) }

func rat(num, den int64) *big.Rat { return big.NewRat(num, den) }

func ofInt(n *big.Int) *big.Rat { return new(big.Rat).SetInt(n) }

func under(n *big.Int) *big.Rat { return new(big.Rat).SetFrac(big.NewInt(1), n) }

func plus(x, y *big.Rat) *big.Rat { return new(big.Rat).Add(x, y) }

func minus(x, y *big.Rat) *big.Rat { return new(big.Rat).Sub(x, y) }

func times(x, y *big.Rat) *big.Rat { return new(big.Rat).Mul(x, y) }

func quo(x, y *big.Rat) *big.Rat { return new(big.Rat).Quo(x, y) }

func opposite(x *big.Rat) *big.Rat { return new(big.Rat).Neg(x) }

func upTo(x *big.Rat) bool {
	return len(x.Num().Bytes()) <= api.MaxWhole && len(x.Denom().Bytes()) <= api.MaxWhole
}

// twos is 2 to the power n.
func twos(n uint) *big.Int { return new(big.Int).Lsh(big.NewInt(1), n) }

// top is the greatest number of a fraction, 256 to the power 1024 less 1; past
// is the next one.
func top() *big.Int { return new(big.Int).Sub(past(), big.NewInt(1)) }

func past() *big.Int { return twos(8 * api.MaxWhole) }

// share is the greatest number that can be had n times, and no more often.
func share(n int64) *big.Int { return new(big.Int).Div(top(), big.NewInt(n)) }

// num is an exact complex number by math/big.
type num struct{ re, im *big.Rat }

func in(re, im int64) num { return num{rat(re, 1), rat(im, 1)} }

func parts(a, b, c, d int64) num { return num{rat(a, b), rat(c, d)} }

func flat(x *big.Rat) num { return num{x, new(big.Rat)} }

func (z num) gauss() api.Gauss { return api.Gauss{Re: fraction(z.re), Im: fraction(z.im)} }

func (z num) fits() bool { return upTo(z.re) && upTo(z.im) }

func (z num) zero() bool { return z.re.Sign() == 0 && z.im.Sign() == 0 }

func (z num) text() string { return z.re.RatString() + " " + z.im.RatString() }

func (z num) plus(w num) num { return num{plus(z.re, w.re), plus(z.im, w.im)} }

func (z num) neg() num { return num{opposite(z.re), opposite(z.im)} }

func (z num) conj() num { return num{z.re, opposite(z.im)} }

func (z num) norm() *big.Rat { return plus(times(z.re, z.re), times(z.im, z.im)) }

func (z num) times(w num) num {
	return num{minus(times(z.re, w.re), times(z.im, w.im)), plus(times(z.re, w.im), times(z.im, w.re))}
}

func (z num) over(w num) num { return z.times(w.conj()).times(flat(new(big.Rat).Inv(w.norm()))) }

// spot is a point by math/big.
type spot struct {
	inf bool
	z   num
}

func far() spot { return spot{inf: true} }

func at(z num) spot { return spot{z: z} }

func on(re, im int64) spot { return at(in(re, im)) }

func (p spot) point() api.Point {
	if p.inf {
		return api.Point{Inf: true}
	}
	return api.Point{Z: p.z.gauss()}
}

func (p spot) fits() bool { return p.inf || p.z.fits() }

// ring is a circle by math/big, or three numbers that stand for one.
type ring struct {
	a *big.Rat
	b num
	c *big.Rat
}

func ringed(a, re, im, c int64) ring { return ring{rat(a, 1), in(re, im), rat(c, 1)} }

func unit() ring { return ringed(1, 0, 0, -1) }

// about is the circle |z - centre|^2 = square.
func about(centre num, square *big.Rat) ring {
	return ring{rat(1, 1), centre.conj().neg(), minus(centre.norm(), square)}
}

// beside is the line Re z = x, level the line Im z = x.
func beside(x *big.Rat) ring { return ring{new(big.Rat), in(1, 0), times(rat(-2, 1), x)} }

func level(x *big.Rat) ring { return ring{new(big.Rat), in(0, 1), times(rat(2, 1), x)} }

func (k ring) circle() api.Circle {
	return api.Circle{A: fraction(k.a), B: k.b.gauss(), C: fraction(k.c)}
}

func (k ring) fits() bool { return upTo(k.a) && k.b.fits() && upTo(k.c) }

func (k ring) formed() ring {
	by := k.b.im
	for _, x := range []*big.Rat{k.b.re, k.a} {
		if x.Sign() != 0 {
			by = x
		}
	}
	return ring{quo(k.a, by), num{quo(k.b.re, by), quo(k.b.im, by)}, quo(k.c, by)}
}

// side goes by the words of chapter 11.
func (k ring) side(p spot) int {
	if p.inf {
		return k.a.Sign()
	}
	twice := times(rat(2, 1), k.b.times(p.z).re)
	return plus(plus(times(k.a, p.z.norm()), twice), k.c).Sign()
}

// turning goes by the words of chapter 14.
func (k ring) turning() chart {
	return chart{k.b.conj().neg(), flat(opposite(k.c)), flat(k.a), k.b, true}.formed()
}

// chart is a map by math/big, in its one form, of numbers of any length.
type chart struct {
	a, b, c, d num
	turns      bool
}

func charted(a, b, c, d int64) chart {
	return chart{a: in(a, 0), b: in(b, 0), c: in(c, 0), d: in(d, 0)}.formed()
}

func still() chart { return charted(1, 0, 0, 1) }

func slide(b num) chart { return chart{a: in(1, 0), b: b, c: in(0, 0), d: in(1, 0)} }

func stretch(a num) chart { return chart{a: a, b: in(0, 0), c: in(0, 0), d: in(1, 0)} }

func (m chart) formed() chart {
	by := m.c
	if by.zero() {
		by = m.d
	}
	return chart{m.a.over(by), m.b.over(by), m.c.over(by), m.d.over(by), m.turns}
}

func (m chart) mob() api.Mob {
	return api.Mob{A: m.a.gauss(), B: m.b.gauss(), C: m.c.gauss(), D: m.d.gauss(), Turns: m.turns}
}

func (m chart) fits() bool { return m.a.fits() && m.b.fits() && m.c.fits() && m.d.fits() }

// key tells maps apart, those that are too big among them.
func (m chart) key() string {
	s := strings.Join([]string{m.a.text(), m.b.text(), m.c.text(), m.d.text()}, " ")
	if m.turns {
		return "turn " + s
	}
	return s
}

func (m chart) conj() chart { return chart{m.a.conj(), m.b.conj(), m.c.conj(), m.d.conj(), m.turns} }

// behind multiplies the matrices.
func (m chart) behind(n chart) chart {
	turns := m.turns != n.turns
	if m.turns {
		n = n.conj()
	}
	return chart{
		m.a.times(n.a).plus(m.b.times(n.c)), m.a.times(n.b).plus(m.b.times(n.d)),
		m.c.times(n.a).plus(m.d.times(n.c)), m.c.times(n.b).plus(m.d.times(n.d)), turns,
	}.formed()
}

func (m chart) inverse() chart {
	n := chart{m.d, m.b.neg(), m.c.neg(), m.a, m.turns}
	if m.turns {
		n = n.conj()
	}
	return n.formed()
}

// at goes by the words of DOC.md.
func (m chart) at(p spot) spot {
	if p.inf {
		if m.c.zero() {
			return far()
		}
		return at(m.a.over(m.c))
	}
	w := p.z
	if m.turns {
		w = w.conj()
	}
	below := m.c.times(w).plus(m.d)
	if below.zero() {
		return far()
	}
	return at(m.a.times(w).plus(m.b).over(below))
}

// image is the circle to whose points m sends those of k: the w whose way back
// leads to k. With what stands below the line multiplied in, k's value there is
// a |w|^2 + 2 Re(b w) + c again: what a, b and c are, four w tell.
func (m chart) image(k ring) ring {
	back := m.inverse()
	value := func(re, im int64) *big.Rat {
		w := in(re, im)
		if back.turns {
			w = w.conj()
		}
		u, v := back.a.times(w).plus(back.b), back.c.times(w).plus(back.d)
		twice := times(rat(2, 1), k.b.times(u).times(v.conj()).re)
		return plus(plus(times(k.a, u.norm()), twice), times(k.c, v.norm()))
	}
	c, right, left, up := value(0, 0), value(1, 0), value(-1, 0), value(0, 1)
	a := minus(times(rat(1, 2), plus(right, left)), c)
	b := num{times(rat(1, 4), minus(right, left)), times(rat(-1, 2), minus(up, plus(a, c)))}
	return ring{a, b, c}.formed()
}

// glass is mirrors by math/big.
type glass struct {
	rings []ring
	sides []int
}

func (g glass) circles() []api.Circle {
	var l []api.Circle
	for _, k := range g.rings {
		l = append(l, k.circle())
	}
	return l
}

// mirrors wants New to make them.
func (g glass) mirrors(t *testing.T) *mirrors.Mirrors {
	t.Helper()
	m, e := mirrors.New(g.circles(), g.sides)
	if m == nil || e != api.OK {
		t.Fatalf("New of %d circles is %v, %v", len(g.rings), m, e)
	}
	return m
}

// behind goes by the words of P19.2.
func (g glass) behind(p spot) int {
	for k, r := range g.rings {
		if r.side(p) == -g.sides[k] {
			return k + 1
		}
	}
	return 0
}

// way is all points on the way home, up to most turnings, or to one that is too
// big, and the mirrors over which it goes.
func (g glass) way(p spot, most int) (points []spot, word []int) {
	points = []spot{p}
	for len(word) < most && p.fits() {
		k := g.behind(p)
		if k == 0 {
			break
		}
		p = g.rings[k-1].turning().at(p)
		points, word = append(points, p), append(word, k)
	}
	return points, word
}

// does is what a word does, of numbers of any length.
func (g glass) does(word ...int) chart {
	m := still()
	for _, k := range word {
		m = g.rings[max(k, -k)-1].turning().behind(m)
	}
	return m
}

// order goes on till nothing is moved, far past all orders that there are.
func (g glass) order(j, k int) int {
	once := g.does(j, k)
	done := once
	for n := 1; n <= 25; n++ {
		if done.key() == still().key() {
			return n
		}
		done = once.behind(done)
	}
	return 0
}

// one is an element as the document says it is.
type one struct {
	m    chart
	word []int
}

// elements goes through the plain words, by the words of P19.5.
func (g glass) elements(most int) ([]one, api.Errno) {
	l := []one{{m: still()}}
	met := map[string]bool{still().key(): true}
	var turnings []chart
	for _, k := range g.rings {
		turnings = append(turnings, k.turning())
	}
	for i := 0; i < len(l) && len(l[i].word) < most; i++ {
		for k, turning := range turnings {
			if n := len(l[i].word); n > 0 && l[i].word[n-1] == k+1 {
				continue
			}
			m := turning.behind(l[i].m)
			switch {
			case !m.fits():
				return nil, api.ErrBig
			case met[m.key()]:
				continue
			case len(l) == api.MaxElems:
				return nil, api.ErrMany
			}
			met[m.key()] = true
			l = append(l, one{m, append(slices.Clone(l[i].word), k+1)})
		}
	}
	return l, api.OK
}

// orbit goes by the words of P19.6.
func (g glass) orbit(p spot, most int) ([]api.Point, api.Errno) {
	all, e := g.elements(most)
	if e != api.OK {
		return nil, e
	}
	var l []api.Point
	for _, x := range all {
		q := x.m.at(p)
		if !q.fits() {
			return nil, api.ErrBig
		}
		if !slices.Contains(l, q.point()) {
			l = append(l, q.point())
		}
	}
	return l, api.OK
}

// walls goes by the words of P19.6.
func (g glass) walls(most int) ([]api.Circle, api.Errno) {
	all, e := g.elements(most)
	if e != api.OK {
		return nil, e
	}
	var l []api.Circle
	met := map[api.Circle]bool{}
	for _, x := range all {
		for _, k := range g.rings {
			w := x.m.image(k)
			switch c := w.circle(); {
			case !w.fits():
				return nil, api.ErrBig
			case met[c]:
			case len(l) == api.MaxElems:
				return nil, api.ErrMany
			default:
				met[c] = true
				l = append(l, c)
			}
		}
	}
	return l, api.OK
}

func wantError(t *testing.T, what string, got, want api.Errno) {
	t.Helper()
	if got != want {
		t.Errorf("%s is %v, want %v", what, got, want)
	}
}

// want wants an answer that can be held against another one by ==.
func want[T comparable](t *testing.T, what string, got T, e api.Errno, wanted T) {
	t.Helper()
	if got != wanted || e != api.OK {
		t.Fatalf("%s is %.99v, %v, want %.99v", what, got, e, wanted)
	}
}

// wantNone wants an error, and what is zero beside it.
func wantNone[T comparable](t *testing.T, what string, got T, e, wanted api.Errno) {
	t.Helper()
	var zero T
	if got != zero || e != wanted {
		t.Fatalf("%s is %.99v, %v, want nothing, %v", what, got, e, wanted)
	}
}

// wantList wants these, or, beside an error, nothing.
func wantList[T comparable](t *testing.T, what string, got []T, e api.Errno, list []T, wanted api.Errno) {
	t.Helper()
	if !slices.Equal(got, list) || e != wanted || e != api.OK && got != nil {
		t.Fatalf("%s: %d others, %v, want %d, %v", what, len(got), e, len(list), wanted)
	}
}

// wantHome wants this point by this word.
func wantHome(t *testing.T, what string, got api.Point, word []int, e api.Errno, p spot, way ...int) {
	t.Helper()
	if got != p.point() || !slices.Equal(word, way) || e != api.OK {
		t.Fatalf("%s is elsewhere, by %d turnings, %v, want %d", what, len(word), e, len(way))
	}
}

func wantNoHome(t *testing.T, what string, got api.Point, word []int, e, wanted api.Errno) {
	t.Helper()
	if got != (api.Point{}) || word != nil || e != wanted {
		t.Fatalf("%s is something by %d turnings, %v, want nothing, %v", what, len(word), e, wanted)
	}
}

// wantElements wants these, or, beside an error, nothing.
func wantElements(t *testing.T, what string, maps []api.Mob, firsts [][]int, e api.Errno, all []one, wanted api.Errno) {
	t.Helper()
	if len(maps) != len(all) || len(firsts) != len(all) || e != wanted || e != api.OK && (maps != nil || firsts != nil) {
		t.Fatalf("%s: %d maps, %d words, %v, want %d, %v", what, len(maps), len(firsts), e, len(all), wanted)
	}
	for i, x := range all {
		if maps[i] != x.m.mob() || !slices.Equal(firsts[i], x.word) {
			t.Fatalf("%s: the element %d is by %v, want %v", what, i, firsts[i], x.word)
		}
	}
}

// tally counts what was seen, so that a test can tell what it did not see.
type tally map[string]int

func (s tally) least(t *testing.T, count int, names ...string) {
	t.Helper()
	for _, name := range names {
		if s[name] < count {
			t.Errorf("%s: seen just %d times", name, s[name])
		}
	}
}
