package descartes_test

import (
	"fmt"
	"math/big"
	"slices"
	"strings"
	"testing"

	"tracery/api"
)

// What follows goes by the document's words and math/big, not by the packages
// that are tested.

func whole(n *big.Int) api.Whole { return api.Whole{Neg: n.Sign() < 0, Mag: string(n.Bytes())} }

func small(n int64) api.Whole { return whole(big.NewInt(n)) }

func fraction(r *big.Rat) api.Frac { return api.Frac{Num: whole(r.Num()), Den: whole(r.Denom())} }

func over(num, den int64) api.Frac { return fraction(big.NewRat(num, den)) }

func rat(num, den int64) *big.Rat { return big.NewRat(num, den) }

func none() *big.Rat { return new(big.Rat) }

func ofInt(n *big.Int) *big.Rat { return new(big.Rat).SetInt(n) }

func under(n *big.Int) *big.Rat { return new(big.Rat).SetFrac(big.NewInt(1), n) }

func plus(x, y *big.Rat) *big.Rat { return new(big.Rat).Add(x, y) }

func minus(x, y *big.Rat) *big.Rat { return new(big.Rat).Sub(x, y) }

func times(x, y *big.Rat) *big.Rat { return new(big.Rat).Mul(x, y) }

func quo(x, y *big.Rat) *big.Rat { return new(big.Rat).Quo(x, y) }

func inverse(x *big.Rat) *big.Rat { return new(big.Rat).Inv(x) }

func opposite(x *big.Rat) *big.Rat { return new(big.Rat).Neg(x) }

func square(x *big.Rat) *big.Rat { return times(x, x) }

func double(x *big.Rat) *big.Rat { return plus(x, x) }

func upTo(x *big.Rat) bool {
	return len(x.Num().Bytes()) <= api.MaxWhole && len(x.Denom().Bytes()) <= api.MaxWhole
}

// rootOf answers the fraction above 0 or 0 whose square x is, if there is one.
func rootOf(x *big.Rat) (*big.Rat, bool) {
	r := new(big.Rat).SetFrac(new(big.Int).Sqrt(x.Num()), new(big.Int).Sqrt(x.Denom()))
	return r, square(r).Cmp(x) == 0
}

// twos is 2 to the power n.
func twos(n uint) *big.Int { return new(big.Int).Lsh(big.NewInt(1), n) }

func more(n *big.Int, by int64) *big.Int { return new(big.Int).Add(n, big.NewInt(by)) }

// top is the greatest number of a fraction, 256 to the power 1024 less 1; past
// is the next one, root its square root.
func top() *big.Int { return more(past(), -1) }

func past() *big.Int { return twos(8 * api.MaxWhole) }

func root() *big.Int { return twos(4 * api.MaxWhole) }

// num is an exact complex number by math/big.
type num struct{ re, im *big.Rat }

func in(re, im int64) num { return num{rat(re, 1), rat(im, 1)} }

func parts(a, b, c, d int64) num { return num{rat(a, b), rat(c, d)} }

func flat(x *big.Rat) num { return num{x, none()} }

func (z num) gauss() api.Gauss { return api.Gauss{Re: fraction(z.re), Im: fraction(z.im)} }

func (z num) fits() bool { return upTo(z.re) && upTo(z.im) }

func (z num) zero() bool { return z.re.Sign() == 0 && z.im.Sign() == 0 }

func (z num) same(w num) bool { return z.minus(w).zero() }

func (z num) plus(w num) num { return num{plus(z.re, w.re), plus(z.im, w.im)} }

func (z num) minus(w num) num { return z.plus(w.neg()) }

func (z num) neg() num { return num{opposite(z.re), opposite(z.im)} }

func (z num) conj() num { return num{z.re, opposite(z.im)} }

func (z num) scaled(by *big.Rat) num { return num{times(z.re, by), times(z.im, by)} }

func (z num) dot(w num) *big.Rat { return plus(times(z.re, w.re), times(z.im, w.im)) }

func (z num) norm() *big.Rat { return z.dot(z) }

func (z num) times(w num) num {
	return num{minus(times(z.re, w.re), times(z.im, w.im)), plus(times(z.re, w.im), times(z.im, w.re))}
}

func (z num) over(w num) num { return z.times(w.conj()).scaled(inverse(w.norm())) }

// pointing answers z squared over its norm: a number of the magnitude 1.
func (z num) pointing() num { return z.times(z).scaled(inverse(z.norm())) }

// cmp goes by the order of layer 4.
func (z num) cmp(w num) int {
	if n := z.re.Cmp(w.re); n != 0 {
		return n
	}
	return z.im.Cmp(w.im)
}

// spot is a point by math/big.
type spot struct {
	inf bool
	z   num
}

func far() spot { return spot{inf: true} }

func at(z num) spot { return spot{z: z} }

func on(re, im int64) spot { return at(in(re, im)) }

func (p spot) point() api.Point {
	if p.inf {
		return api.Point{Inf: true}
	}
	return api.Point{Z: p.z.gauss()}
}

func (p spot) fits() bool { return p.inf || p.z.fits() }

// ring is a circle by math/big, or three numbers that stand for one, or for none.
type ring struct {
	a *big.Rat
	b num
	c *big.Rat
}

func ringed(a, re, im, c int64) ring { return ring{rat(a, 1), in(re, im), rat(c, 1)} }

func (k ring) circle() api.Circle {
	return api.Circle{A: fraction(k.a), B: k.b.gauss(), C: fraction(k.c)}
}

func (k ring) fits() bool { return upTo(k.a) && k.b.fits() && upTo(k.c) }

func (k ring) power() *big.Rat { return minus(k.b.norm(), times(k.a, k.c)) }

// formed divides as chapter 11 says.
func (k ring) formed() ring {
	by := k.b.im
	for _, x := range []*big.Rat{k.b.re, k.a} {
		if x.Sign() != 0 {
			by = x
		}
	}
	return ring{quo(k.a, by), k.b.scaled(inverse(by)), quo(k.c, by)}
}

// side goes by the words of chapter 11.
func (k ring) side(p spot) int {
	if p.inf {
		return k.a.Sign()
	}
	return plus(plus(times(k.a, p.z.norm()), double(k.b.times(p.z).re)), k.c).Sign()
}

// ball is a disk by math/big, or four numbers that stand for none.
type ball struct {
	bend *big.Rat
	mid  num
	co   *big.Rat
}

func balled(bend, re, im, co int64) ball { return ball{rat(bend, 1), in(re, im), rat(co, 1)} }

// about is the disk about a centre with a radius, of one below 0 what lies
// outside: Co is what makes the power 1.
func about(centre num, radius *big.Rat) ball {
	mid := centre.scaled(inverse(radius))
	return ball{inverse(radius), mid, times(minus(mid.norm(), rat(1, 1)), radius)}
}

// beyond is the half plane that begins at a point and goes on along a number of
// the magnitude 1.
func beyond(p, along num) ball { return ball{none(), along, double(along.dot(p))} }

// The four of chapter 20's examples.
func o() ball { return about(in(0, 0), rat(-1, 1)) }

func a() ball { return about(parts(1, 2, 0, 1), rat(1, 2)) }

func b() ball { return about(parts(-1, 2, 0, 1), rat(1, 2)) }

func c() ball { return about(parts(0, 1, 2, 3), rat(1, 3)) }

func knot() quad { return quad{o(), a(), b(), c()} }

// strip is chapter 22's.
func strip() quad {
	return quad{balled(0, 0, -1, 0), balled(0, 0, 1, 4), balled(1, 0, 1, 0), balled(1, 2, 1, 4)}
}

func (x ball) disk() api.Disk {
	return api.Disk{Bend: fraction(x.bend), Mid: x.mid.gauss(), Co: fraction(x.co)}
}

func (x ball) fits() bool { return upTo(x.bend) && x.mid.fits() && upTo(x.co) }

func (x ball) power() *big.Rat { return minus(x.mid.norm(), times(x.bend, x.co)) }

func (x ball) straight() bool { return x.bend.Sign() == 0 }

func (x ball) same(y ball) bool {
	return x.bend.Cmp(y.bend) == 0 && x.mid.same(y.mid) && x.co.Cmp(y.co) == 0
}

func (x ball) times(by *big.Rat) ball {
	return ball{times(x.bend, by), x.mid.scaled(by), times(x.co, by)}
}

func (x ball) plus(y ball) ball {
	return ball{plus(x.bend, y.bend), x.mid.plus(y.mid), plus(x.co, y.co)}
}

func (x ball) out() ball { return x.times(rat(-1, 1)) }

// centre and radius are for what is no half plane; the radius has Bend's sign.
func (x ball) centre() num { return x.mid.scaled(inverse(x.bend)) }

func (x ball) radius() *big.Rat { return inverse(x.bend) }

// value is the form's of DOC.md.
func (x ball) value(z num) *big.Rat {
	return plus(minus(times(x.bend, z.norm()), double(x.mid.dot(z))), x.co)
}

func (x ball) side(p spot) int {
	if p.inf {
		return x.bend.Sign()
	}
	return x.value(p.z).Sign()
}

// edge is the circle, divided as chapter 11 says.
func (x ball) edge() ring { return ring{x.bend, x.mid.conj().neg(), x.co}.formed() }

// product is DOC.md's formula.
func (x ball) product(y ball) *big.Rat {
	crossed := plus(times(x.bend, y.co), times(y.bend, x.co))
	return minus(times(crossed, rat(1, 2)), x.mid.dot(y.mid))
}

// distance is how far a half plane is from a point outside of it, below 0 inside.
func (x ball) distance(z num) *big.Rat { return times(rat(1, 2), x.value(z)) }

// lying is the product by centres, radii and distances.
func (x ball) lying(y ball) *big.Rat {
	if x.straight() {
		x, y = y, x
	}
	switch {
	case x.straight():
		return opposite(x.mid.dot(y.mid))
	case y.straight():
		return quo(y.distance(x.centre()), x.radius())
	}
	r, s, d := x.radius(), y.radius(), x.centre().minus(y.centre()).norm()
	return quo(minus(d, plus(square(r), square(s))), double(times(r, s)))
}

func (x ball) touches(y ball) bool {
	return x.lying(y).Cmp(rat(1, 1)) == 0 && !x.same(y.out())
}

// apart goes by centres, radii and distances.
func (x ball) apart(y ball) bool {
	if x.bend.Cmp(y.bend) < 0 {
		x, y = y, x
	}
	switch {
	case x.bend.Sign() < 0, x.straight() && y.bend.Sign() < 0: // infinity is inside of y
		return false
	case x.straight(): // two half planes
		return x.mid.same(y.mid.neg()) && plus(x.co, y.co).Sign() >= 0
	case y.straight():
		return y.distance(x.centre()).Cmp(x.radius()) >= 0
	}
	r, s, d := x.radius(), y.radius(), x.centre().minus(y.centre()).norm()
	if s.Sign() < 0 && plus(r, s).Sign() > 0 { // greater than the hole
		return false
	}
	n := d.Cmp(square(plus(r, s)))
	return s.Sign() > 0 && n >= 0 || s.Sign() < 0 && n <= 0
}

// kiss is for two that touch, by centres, radii and distances.
func (x ball) kiss(y ball) spot {
	if x.straight() {
		x, y = y, x
	}
	switch {
	case x.straight():
		return far()
	case y.straight():
		return at(x.centre().plus(y.mid.scaled(y.distance(x.centre()))))
	}
	way := y.centre().minus(x.centre())
	return at(x.centre().plus(way.scaled(quo(x.radius(), plus(x.radius(), y.radius())))))
}

// before is the order of P20.4.
func (x ball) before(y ball) bool {
	if n := x.bend.Cmp(y.bend); n != 0 {
		return n > 0
	}
	if n := x.mid.cmp(y.mid); n != 0 {
		return n < 0
	}
	return x.co.Cmp(y.co) < 0
}

func disksOf(l ...ball) []api.Disk {
	var out []api.Disk
	for _, x := range l {
		out = append(out, x.disk())
	}
	return out
}

// quad is four disks by math/big.
type quad [4]ball

func (f quad) disks() [4]api.Disk {
	return [4]api.Disk{f[0].disk(), f[1].disk(), f[2].disk(), f[3].disk()}
}

func (f quad) fits() bool { return f[0].fits() && f[1].fits() && f[2].fits() && f[3].fits() }

func (f quad) with(i int, x ball) quad {
	f[i] = x
	return f
}

func (f quad) out() quad { return quad{f[0].out(), f[1].out(), f[2].out(), f[3].out()} }

// touch tells whether each two of the four touch.
func (f quad) touch() bool {
	for i := range f {
		for j := range i {
			if !f[i].touches(f[j]) {
				return false
			}
		}
	}
	return true
}

// changed is the chapter's.
func (f quad) changed(l ...int) quad {
	for _, i := range l {
		others := f[(i+1)%4].plus(f[(i+2)%4]).plus(f[(i+3)%4])
		f[i] = others.times(rat(2, 1)).plus(f[i].out())
	}
	return f
}

// swaps is P20.5's: what they come to, or ErrBig, if it comes up on the way.
func (f quad) swaps(l ...int) (quad, api.Errno) {
	for _, i := range l {
		if f = f.changed(i); !f.fits() {
			return quad{}, api.ErrBig
		}
	}
	return f, api.OK
}

func (f quad) bends() *big.Rat {
	return plus(plus(f[0].bend, f[1].bend), plus(f[2].bend, f[3].bend))
}

// root is P20.6's, of four that touch.
func (f quad) root() (quad, []int, api.Errno) {
	if f.bends().Sign() <= 0 {
		return quad{}, nil, api.ErrNone
	}
	var places []int
	for {
		i := 0
		for k, x := range f {
			if x.bend.Cmp(f[i].bend) > 0 {
				i = k
			}
		}
		next := f.changed(i)
		switch {
		case next[i].bend.Cmp(f[i].bend) >= 0:
			return f, places, api.OK
		case len(places) == api.MaxList:
			return quad{}, nil, api.ErrLong
		case !next.fits():
			return quad{}, nil, api.ErrBig
		}
		f, places = next, append(places, i)
	}
}

// rule is P20.8's, by sums of complex numbers.
func (f quad) rule() [3]bool {
	sum := func(of func(x ball) num) num {
		return of(f[0]).plus(of(f[1])).plus(of(f[2])).plus(of(f[3]))
	}
	bend := func(x ball) num { return flat(x.bend) }
	mid := func(x ball) num { return x.mid }
	ruled := func(g, h func(x ball) num) bool {
		each := sum(func(x ball) num { return g(x).times(h(x)) })
		return sum(g).times(sum(h)).same(each.plus(each))
	}
	return [3]bool{ruled(bend, bend), ruled(mid, mid), ruled(bend, mid)}
}

// row answers the rails of four that touch, and the disks n and n + 1 of the
// row that the other two begin, by chapter 22's formula.
func (f quad) row(n int64) quad {
	disk := func(n int64) ball {
		way := f[3].plus(f[2].out()).times(rat(n, 1))
		return f[2].plus(way).plus(f[0].plus(f[1]).times(rat(n*(n-1), 1)))
	}
	return quad{f[0], f[1], disk(n), disk(n + 1)}
}

// chart is a map by math/big, in its one form, of numbers of any length.
type chart struct {
	a, b, c, d num
	turns      bool
}

func still() chart { return slide(in(0, 0)) }

func slide(b num) chart { return chart{a: in(1, 0), b: b, c: in(0, 0), d: in(1, 0)} }

func stretch(a num) chart { return chart{a: a, b: in(0, 0), c: in(0, 0), d: in(1, 0)} }

// flip is z to 1 / z.
func flip() chart { return chart{a: in(0, 0), b: in(1, 0), c: in(1, 0), d: in(0, 0)} }

// round is the map with C being 1, of this A and D, and this A D - B.
func round(a, d, det num) chart { return chart{a: a, b: a.times(d).minus(det), c: in(1, 0), d: d} }

func (m chart) turned() chart {
	m.turns = !m.turns
	return m
}

func (m chart) mob() api.Mob {
	return api.Mob{A: m.a.gauss(), B: m.b.gauss(), C: m.c.gauss(), D: m.d.gauss(), Turns: m.turns}
}

func (m chart) fits() bool { return m.a.fits() && m.b.fits() && m.c.fits() && m.d.fits() }

func (m chart) det() num { return m.a.times(m.d).minus(m.b.times(m.c)) }

// size is the magnitude of the determinant, if that is a fraction.
func (m chart) size() (*big.Rat, bool) { return rootOf(m.det().norm()) }

// at goes by the words of DOC.md.
func (m chart) at(p spot) spot {
	if p.inf {
		if m.c.zero() {
			return far()
		}
		return at(m.a.over(m.c))
	}
	w := p.z
	if m.turns {
		w = w.conj()
	}
	below := m.c.times(w).plus(m.d)
	if below.zero() {
		return far()
	}
	return at(m.a.times(w).plus(m.b).over(below))
}

// image is for maps whose determinant's magnitude is a fraction. It goes step by
// step: a map is a slide, or a slide, z to 1 / z, a stretch, and a slide.
func (m chart) image(x ball) ball {
	if m.turns {
		x.mid = x.mid.conj()
	}
	if m.c.zero() {
		return x.stretched(m.a).slid(m.b)
	}
	x = x.slid(m.d)
	x = ball{x.co, x.mid.conj(), x.bend}
	return x.stretched(m.det().neg()).slid(m.a)
}

func (x ball) slid(by num) ball {
	return ball{x.bend, x.mid.plus(by.scaled(x.bend)), plus(plus(x.co, double(x.mid.dot(by))), times(x.bend, by.norm()))}
}

func (x ball) stretched(by num) ball {
	size, _ := rootOf(by.norm())
	return ball{quo(x.bend, size), x.mid.times(by).scaled(inverse(size)), times(x.co, size)}
}

func (m chart) images(f quad) quad {
	return quad{m.image(f[0]), m.image(f[1]), m.image(f[2]), m.image(f[3])}
}

// brief tells an answer so that it can be read.
func brief(x any) string {
	switch v := x.(type) {
	case api.Frac:
		return briefRat(v)
	case api.Gauss:
		return "(" + briefRat(v.Re) + " " + briefRat(v.Im) + ")"
	case api.Point:
		return fmt.Sprint(v.Inf, brief(v.Z))
	case api.Circle:
		return fmt.Sprint("circle ", brief(v.A), brief(v.B), brief(v.C))
	case api.Disk:
		return fmt.Sprint("disk ", brief(v.Bend), brief(v.Mid), brief(v.Co))
	case [4]api.Disk:
		return strings.Join([]string{brief(v[0]), brief(v[1]), brief(v[2]), brief(v[3])}, ", ")
	}
	return fmt.Sprint(x)
}

func briefRat(x api.Frac) string {
	s := new(big.Int).SetBytes([]byte(x.Num.Mag)).String() + "/" + new(big.Int).SetBytes([]byte(x.Den.Mag)).String()
	if x.Num.Neg {
		s = "-" + s
	}
	return s[:min(len(s), 30)]
}

func wantError(t *testing.T, what string, got, want api.Errno) {
	t.Helper()
	if got != want {
		t.Fatalf("%s is %v, want %v", what, got, want)
	}
}

// want wants an answer that can be held against another one by ==.
func want[T comparable](t *testing.T, what string, got T, e api.Errno, wanted T) {
	t.Helper()
	if got != wanted || e != api.OK {
		t.Fatalf("%s is %s, %v, want %s", what, brief(got), e, brief(wanted))
	}
}

// wantNone wants an error, and what is zero beside it.
func wantNone[T comparable](t *testing.T, what string, got T, e, wanted api.Errno) {
	t.Helper()
	var zero T
	if got != zero || e != wanted {
		t.Fatalf("%s is %s, %v, want nothing, %v", what, brief(got), e, wanted)
	}
}

// wantDisk wants the disk, or that it is too big.
func wantDisk(t *testing.T, what string, got api.Disk, e api.Errno, wanted ball) {
	t.Helper()
	if !wanted.fits() {
		wantNone(t, what, got, e, api.ErrBig)
		return
	}
	if wanted.power().Cmp(rat(1, 1)) != 0 {
		t.Fatalf("%s: a disk is wanted that may not be", what)
	}
	want(t, what, got, e, wanted.disk())
}

// wantFour wants the four, or the error.
func wantFour(t *testing.T, what string, got [4]api.Disk, e api.Errno, wanted quad, wrong api.Errno) {
	t.Helper()
	if wrong != api.OK {
		wantNone(t, what, got, e, wrong)
		return
	}
	want(t, what, got, e, wanted.disks())
}

// wantRoot wants the four and the places, or the error.
func wantRoot(t *testing.T, what string, got [4]api.Disk, places []int, e api.Errno, wanted quad, way []int, wrong api.Errno) {
	t.Helper()
	wantFour(t, what, got, e, wanted, wrong)
	if !slices.Equal(places, way) || wrong != api.OK && places != nil {
		t.Fatalf("%s goes by %d places, want %d", what, len(places), len(way))
	}
}

// tally counts what was seen, so that a test can tell what it did not see.
type tally map[string]int

func (s tally) least(t *testing.T, count int, names ...string) {
	t.Helper()
	for _, name := range names {
		if s[name] < count {
			t.Errorf("%s: seen just %d times", name, s[name])
		}
	}
}

func (s tally) when(name string, ok bool) {
	if ok {
		s[name]++
	}
}

// fit counts what fits and what is too big.
func (s tally) fit(fits bool) {
	s.when("fits", fits)
	s.when("too big", !fits)
}
