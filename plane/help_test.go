package plane_test

import (
	"fmt"
	"math/big"
	"testing"

	"tracery/api"
)

// What follows goes by the document's words and math/big, not by the packages
// that are tested.

func whole(n *big.Int) api.Whole { return api.Whole{Neg: n.Sign() < 0, Mag: string(n.Bytes())} }

func fraction(r *big.Rat) api.Frac { return api.Frac{Num: whole(r.Num()), Den: whole(r.Denom())} }

func ratOf(x api.Frac) *big.Rat {
	num := new(big.Int).SetBytes([]byte(x.Num.Mag))
	if x.Num.Neg {
		num.Neg(num)
	}
	return ratio(num, new(big.Int).SetBytes([]byte(x.Den.Mag)))
}

func rat(num, den int64) *big.Rat { return big.NewRat(num, den) }

func none() *big.Rat { return new(big.Rat) }

func one() *big.Rat { return rat(1, 1) }

func ofInt(n *big.Int) *big.Rat { return new(big.Rat).SetInt(n) }

func ratio(num, den *big.Int) *big.Rat { return new(big.Rat).SetFrac(num, den) }

func under(n *big.Int) *big.Rat { return ratio(big.NewInt(1), n) }

func plus(x, y *big.Rat) *big.Rat { return new(big.Rat).Add(x, y) }

func minus(x, y *big.Rat) *big.Rat { return new(big.Rat).Sub(x, y) }

func times(x, y *big.Rat) *big.Rat { return new(big.Rat).Mul(x, y) }

func quo(x, y *big.Rat) *big.Rat { return new(big.Rat).Quo(x, y) }

func opposite(x *big.Rat) *big.Rat { return new(big.Rat).Neg(x) }

func twice(x *big.Rat) *big.Rat { return plus(x, x) }

func squared(x *big.Rat) *big.Rat { return times(x, x) }

func upTo(x *big.Rat) bool {
	return len(x.Num().Bytes()) <= api.MaxWhole && len(x.Denom().Bytes()) <= api.MaxWhole
}

// lengthy tells of numbers with which math/big's fractions take their time.
func lengthy(l ...num) bool {
	bits := 0
	for _, z := range l {
		for _, x := range []*big.Rat{z.re, z.im} {
			bits += x.Num().BitLen() + x.Denom().BitLen()
		}
	}
	return bits > 4000
}

// rooted is the root that is not below 0, if it is a fraction.
func rooted(x *big.Rat) (*big.Rat, bool) {
	if x.Sign() < 0 {
		return nil, false
	}
	root := ratio(new(big.Int).Sqrt(x.Num()), new(big.Int).Sqrt(x.Denom()))
	return root, squared(root).Cmp(x) == 0
}

// twos is 2 to the power n.
func twos(n uint) *big.Int { return new(big.Int).Lsh(big.NewInt(1), n) }

func more(n *big.Int, by int64) *big.Int { return new(big.Int).Add(n, big.NewInt(by)) }

// top is the greatest number of a fraction, 256 to the power 1024 less 1; past
// is the next one, and half, with half as many bytes, the square root of that.
func top() *big.Int { return more(past(), -1) }

func past() *big.Int { return twos(8 * api.MaxWhole) }

func half() *big.Int { return twos(4 * api.MaxWhole) }

// num is an exact complex number by math/big.
type num struct{ re, im *big.Rat }

func in(re, im int64) num { return num{rat(re, 1), rat(im, 1)} }

func parts(a, b, c, d int64) num { return num{rat(a, b), rat(c, d)} }

func real(x *big.Rat) num { return num{x, none()} }

func (z num) gauss() api.Gauss { return api.Gauss{Re: fraction(z.re), Im: fraction(z.im)} }

func (z num) fits() bool { return upTo(z.re) && upTo(z.im) }

func (z num) zero() bool { return z.re.Sign() == 0 && z.im.Sign() == 0 }

func (z num) same(w num) bool { return z.re.Cmp(w.re) == 0 && z.im.Cmp(w.im) == 0 }

func (z num) plus(w num) num { return num{plus(z.re, w.re), plus(z.im, w.im)} }

func (z num) minus(w num) num { return num{minus(z.re, w.re), minus(z.im, w.im)} }

func (z num) neg() num { return num{opposite(z.re), opposite(z.im)} }

func (z num) conj() num { return num{z.re, opposite(z.im)} }

func (z num) scaled(by *big.Rat) num { return num{times(z.re, by), times(z.im, by)} }

func (z num) dot(w num) *big.Rat { return plus(times(z.re, w.re), times(z.im, w.im)) }

func (z num) norm() *big.Rat { return z.dot(z) }

func (z num) times(w num) num {
	return num{minus(times(z.re, w.re), times(z.im, w.im)), plus(times(z.re, w.im), times(z.im, w.re))}
}

func (z num) over(w num) num { return z.times(w.conj()).scaled(new(big.Rat).Inv(w.norm())) }

// ring is a circle by math/big, or three numbers that stand for one.
type ring struct {
	a *big.Rat
	b num
	c *big.Rat
}

func ringed(a, re, im, c int64) ring { return ring{rat(a, 1), in(re, im), rat(c, 1)} }

// about is the circle |z - centre|^2 = square.
func about(centre num, square *big.Rat) ring {
	return ring{one(), centre.conj().neg(), minus(centre.norm(), square)}
}

// beside is the line Re z = x.
func beside(x *big.Rat) ring { return ring{none(), in(1, 0), opposite(twice(x))} }

// edgeOf is the real line, or the unit circle.
func edgeOf(p api.Picture) ring {
	if p == api.Upper {
		return ringed(0, 0, 1, 0)
	}
	return ringed(1, 0, 0, -1)
}

func (k ring) circle() api.Circle {
	return api.Circle{A: fraction(k.a), B: k.b.gauss(), C: fraction(k.c)}
}

func (k ring) fits() bool { return upTo(k.a) && k.b.fits() && upTo(k.c) }

func (k ring) power() *big.Rat { return minus(k.b.norm(), times(k.a, k.c)) }

func (k ring) flat() bool { return k.a.Sign() == 0 }

// formed divides as chapter 11 says.
func (k ring) formed() ring {
	by := k.a
	if by.Sign() == 0 {
		by = k.b.re
	}
	if by.Sign() == 0 {
		by = k.b.im
	}
	by = new(big.Rat).Inv(by)
	return ring{times(k.a, by), k.b.scaled(by), times(k.c, by)}
}

// centre and square are for circles that are no lines.
func (k ring) centre() num { return k.b.conj().neg() }

func (k ring) square() *big.Rat { return k.power() }

func (k ring) value(z num) *big.Rat {
	return plus(plus(times(k.a, z.norm()), twice(k.b.times(z).re)), k.c)
}

// right goes by Pythagoras.
func (k ring) right(l ring) bool {
	if k.flat() {
		k, l = l, k
	}
	switch {
	case k.flat():
		return k.b.dot(l.b).Sign() == 0
	case l.flat():
		return l.value(k.centre()).Sign() == 0
	}
	return k.centre().minus(l.centre()).norm().Cmp(plus(k.square(), l.square())) == 0
}

// turned goes by the centre and the radius: the image lies on the same ray, its
// distance times the old one being the radius squared; over a line it is as far
// behind it as it was ahead. It is for numbers that do not go to infinity.
func (k ring) turned(z num) num {
	if k.flat() {
		return z.minus(k.b.conj().scaled(quo(k.value(z), k.b.norm())))
	}
	way := z.minus(k.centre())
	return k.centre().plus(way.scaled(quo(k.square(), way.norm())))
}

// over is the turning as a map, by the centre m and the radius squared s of a
// circle: z to m + s / conj(z - m); of a line by where 0 and 1 go.
func (k ring) over() chart {
	if k.flat() {
		b := k.turned(in(0, 0))
		return chart{k.turned(in(1, 0)).minus(b), b, in(0, 0), in(1, 0), true}
	}
	m := k.centre()
	return chart{m, real(minus(k.square(), m.norm())), in(1, 0), m.conj().neg(), true}
}

// upon is what is asked of a, both parts of b, and c to be upright on k; through
// is what is asked to go through z.
func (k ring) upon() [4]*big.Rat {
	two := k.b.scaled(rat(2, 1))
	return [4]*big.Rat{opposite(k.c), two.re, two.im, opposite(k.a)}
}

func (z num) through() [4]*big.Rat {
	two := z.conj().scaled(rat(2, 1))
	return [4]*big.Rat{z.norm(), two.re, two.im, one()}
}

// solved is the one circle that answers three equations, by elimination.
func solved(rows ...[4]*big.Rat) ring {
	var led []int
	for col := 0; col < 4; col++ {
		found := -1
		for n := len(led); n < len(rows); n++ {
			if rows[n][col].Sign() != 0 {
				found = n
			}
		}
		if found < 0 {
			continue
		}
		first := len(led)
		rows[first], rows[found] = rows[found], rows[first]
		for n := range rows {
			if n == first || rows[n][col].Sign() == 0 {
				continue
			}
			by := quo(rows[n][col], rows[first][col])
			for m := range rows[n] {
				rows[n][m] = minus(rows[n][m], times(by, rows[first][m]))
			}
		}
		led = append(led, col)
	}
	if len(led) != 3 {
		panic("not one circle")
	}
	free := 6 - led[0] - led[1] - led[2]
	out := [4]*big.Rat{}
	out[free] = one()
	for n, col := range led {
		out[col] = opposite(quo(rows[n][free], rows[n][col]))
	}
	return ring{out[0], num{out[1], out[2]}, out[3]}.formed()
}

// chart is a map by math/big, or four numbers that stand for one.
type chart struct {
	a, b, c, d num
	turns      bool
}

func charted(a, b, c, d int64) chart {
	return chart{a: in(a, 0), b: in(b, 0), c: in(c, 0), d: in(d, 0)}
}

func still() chart { return charted(1, 0, 0, 1) }

// toRound and toUpper are (z - i) / (z + i) and its inverse, as matrices.
func toRound() chart { return chart{in(1, 0), in(0, -1), in(1, 0), in(0, 1), false} }

func toUpper() chart { return chart{in(0, 1), in(0, 1), in(-1, 0), in(1, 0), false} }

func (m chart) turned() chart {
	m.turns = !m.turns
	return m
}

// formed divides by c or d, as chapter 8 says.
func (m chart) formed() chart {
	by := m.c
	if by.zero() {
		by = m.d
	}
	return chart{m.a.over(by), m.b.over(by), m.c.over(by), m.d.over(by), m.turns}
}

func (m chart) det() num { return m.a.times(m.d).minus(m.b.times(m.c)) }

func (m chart) mob() api.Mob {
	return api.Mob{A: m.a.gauss(), B: m.b.gauss(), C: m.c.gauss(), D: m.d.gauss(), Turns: m.turns}
}

func (m chart) fits() bool { return m.a.fits() && m.b.fits() && m.c.fits() && m.d.fits() }

func (m chart) conj() chart { return chart{m.a.conj(), m.b.conj(), m.c.conj(), m.d.conj(), m.turns} }

// behind multiplies the matrices.
func (m chart) behind(n chart) chart {
	turns := m.turns != n.turns
	if m.turns {
		n = n.conj()
	}
	return chart{
		m.a.times(n.a).plus(m.b.times(n.c)), m.a.times(n.b).plus(m.b.times(n.d)),
		m.c.times(n.a).plus(m.d.times(n.c)), m.c.times(n.b).plus(m.d.times(n.d)), turns,
	}.formed()
}

// at is for numbers that do not go to infinity.
func (m chart) at(z num) num {
	if m.turns {
		z = z.conj()
	}
	return m.a.times(z).plus(m.b).over(m.c.times(z).plus(m.d))
}

// within tells whether z is a point of the picture.
func within(p api.Picture, z num) bool {
	if p == api.Upper {
		return z.im.Sign() > 0
	}
	return z.norm().Cmp(one()) < 0
}

// inUpper and inRound bring a point of p to that picture.
func inUpper(p api.Picture, z num) num {
	if p == api.Upper {
		return z
	}
	return toUpper().at(z)
}

func inRound(p api.Picture, z num) num {
	if p == api.Round {
		return z
	}
	return toRound().at(z)
}

// farOf is the chapter's.
func farOf(p api.Picture, z, w num) *big.Rat {
	gap := z.minus(w).norm()
	if p == api.Upper {
		return plus(one(), quo(gap, twice(times(z.im, w.im))))
	}
	return plus(one(), quo(twice(gap), times(minus(one(), z.norm()), minus(one(), w.norm()))))
}

// moveOf is the chapter's.
func moveOf(p api.Picture, z, w num) chart {
	if p == api.Upper {
		a := quo(w.im, z.im)
		return chart{real(a), real(minus(w.re, times(a, z.re))), in(0, 0), in(1, 0), false}
	}
	home := chart{in(1, 0), z.neg(), z.conj().neg(), in(1, 0), false}
	away := chart{in(1, 0), w, w.conj(), in(1, 0), false} // undoes the one for w
	return away.behind(home)
}

// keptBy: of the upper half plane by real numbers and the sign of a d - b c, of
// the round one by what the map does to the other picture.
func keptBy(p api.Picture, m chart) bool {
	if p == api.Round {
		m = toUpper().formed().behind(m).behind(toRound())
	}
	m = m.formed()
	for _, z := range []num{m.a, m.b, m.c, m.d} {
		if z.im.Sign() != 0 {
			return false
		}
	}
	return (m.det().re.Sign() > 0) != m.turns
}

func lineOf(p api.Picture, z, w num) ring {
	return solved(edgeOf(p).upon(), z.through(), w.through())
}

func uprightOf(p api.Picture, k ring, z num) ring {
	return solved(edgeOf(p).upon(), k.upon(), z.through())
}

// footOf goes by the upper picture: there the point's real part comes of both
// circles' equations, and how high it is of Pythagoras.
func footOf(p api.Picture, k ring, z num) (num, bool) {
	if p == api.Round {
		q := toUpper().at(z)
		foot, exact := footOf(api.Upper, k.inUpper(), q)
		if !exact {
			return num{}, false
		}
		return toRound().at(foot), true
	}
	l := uprightOf(p, k, z)
	if k.flat() {
		k, l = l, k
	}
	var x *big.Rat
	if l.flat() {
		x = opposite(quo(l.c, rat(2, 1)))
	} else {
		x = quo(minus(l.c, k.c), twice(minus(k.b.re, l.b.re)))
	}
	y, exact := rooted(minus(k.square(), squared(minus(x, k.centre().re))))
	return num{x, y}, exact
}

// inUpper is what of a straight line of the round picture becomes in the other
// one: A |z - i|^2 + 2 Re(B (z - i) conj(z + i)) + C |z + i|^2.
func (k ring) inUpper() ring {
	// (z - i) conj(z + i) is |z|^2 - 1 - 2 i Re z.
	return ring{
		plus(plus(k.a, k.c), twice(k.b.re)),
		real(twice(k.b.im)).plus(num{none(), minus(k.a, k.c)}),
		minus(plus(k.a, k.c), twice(k.b.re)),
	}.formed()
}

// middleOf are all points as far from z as from w, by the chapter's formulas.
func middleOf(p api.Picture, z, w num) ring {
	high, low := z.im, w.im
	if p == api.Round {
		high, low = minus(one(), z.norm()), minus(one(), w.norm())
	}
	return ring{
		minus(low, high),
		w.conj().scaled(high).minus(z.conj().scaled(low)),
		minus(times(low, z.norm()), times(high, w.norm())),
	}.formed()
}

// aroundOf: in the upper picture the centre is higher by far, in the round one
// it is the chapter's formula.
func aroundOf(p api.Picture, z num, far *big.Rat) ring {
	if p == api.Upper {
		return about(num{z.re, times(z.im, far)}, times(squared(z.im), minus(squared(far), one())))
	}
	by := times(minus(far, one()), minus(one(), z.norm()))
	return ring{plus(rat(2, 1), by), z.conj().scaled(rat(-2, 1)), minus(twice(z.norm()), by)}.formed()
}

// betweenOf goes by the upper picture, where a straight way rises, or goes from
// the left to the right.
func betweenOf(p api.Picture, z, x, w num) bool {
	z, x, w = inUpper(p, z), inUpper(p, x), inUpper(p, w)
	if z.same(w) {
		return x.same(z)
	}
	if lineOf(api.Upper, z, w).value(x).Sign() != 0 {
		return false
	}
	from, at, to := z.re, x.re, w.re
	if from.Cmp(to) == 0 {
		from, at, to = z.im, x.im, w.im
	}
	return from.Cmp(at)*at.Cmp(to) >= 0
}

// angleOf goes by the round picture with at brought to 0, where straight ways
// are rays, and the angle is Euclid's.
func angleOf(p api.Picture, at, z, w num) (*big.Rat, int) {
	at, z, w = inRound(p, at), inRound(p, z), inRound(p, w)
	home := chart{in(1, 0), at.neg(), at.conj().neg(), in(1, 0), false}
	z, w = home.at(z), home.at(w)
	dot := z.dot(w)
	return quo(squared(dot), times(z.norm(), w.norm())), dot.Sign()
}

// brief tells an answer so that it can be read.
func brief(x any) string {
	switch v := x.(type) {
	case api.Frac:
		s := textOf(v)
		return s[:min(len(s), 30)]
	case api.Gauss:
		return "(" + brief(v.Re) + ", " + brief(v.Im) + ")"
	case api.Circle:
		return "circle " + brief(v.A) + brief(v.B) + brief(v.C)
	case api.Mob:
		return fmt.Sprint("map ", v.Turns, brief(v.A), brief(v.B), brief(v.C), brief(v.D))
	case num:
		return brief(v.gauss())
	case ring:
		return brief(v.circle())
	case chart:
		return brief(v.mob())
	case *big.Rat:
		return brief(fraction(v))
	case angle:
		return fmt.Sprint(brief(v.cos2), " ", v.sharp)
	}
	return fmt.Sprint(x)
}

func textOf(x api.Frac) string {
	if x.Den.Mag == "" {
		return "nothing"
	}
	return ratOf(x).String()
}

// want wants an answer that can be held against another one by ==.
func want[T comparable](t *testing.T, what string, got T, e api.Errno, wanted T) {
	t.Helper()
	if got != wanted || e != api.OK {
		t.Fatalf("%s is %s, %v, want %s", what, brief(got), e, brief(wanted))
	}
}

// wantNone wants an error, and what is zero beside it.
func wantNone[T comparable](t *testing.T, what string, got T, e, wanted api.Errno) {
	t.Helper()
	var zero T
	if got != zero || e != wanted {
		t.Fatalf("%s is %s, %v, want nothing, %v", what, brief(got), e, wanted)
	}
}

// wantFit wants an answer, or ErrBig, if it does not fit; it counts both.
func wantFit[T comparable](t *testing.T, seen tally, what string, got T, e api.Errno, wanted T, fits bool) {
	t.Helper()
	if !fits {
		seen["too big"]++
		wantNone(t, what, got, e, api.ErrBig)
		return
	}
	seen["fits"]++
	want(t, what, got, e, wanted)
}

// must is for calls that refuse nothing here.
func must[T any](t *testing.T) func(x T, e api.Errno) T {
	return func(x T, e api.Errno) T {
		t.Helper()
		if e != api.OK {
			t.Fatal(e)
		}
		return x
	}
}

// tally counts what was seen, so that a test can tell what it did not see.
type tally map[string]int

func (s tally) least(t *testing.T, count int, names ...string) {
	t.Helper()
	for _, name := range names {
		if s[name] < count {
			t.Errorf("%s: seen just %d times", name, s[name])
		}
	}
}

func (s tally) when(name string, ok bool) {
	if ok {
		s[name]++
	}
}

// ring counts which of a circle's numbers are too long alone.
func (s tally) ring(k ring) {
	s.when("b alone", !k.b.fits() && upTo(k.c))
	s.when("c alone", k.b.fits() && !upTo(k.c))
}
