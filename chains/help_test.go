package chains_test

import (
	"fmt"
	"math/big"
	"strings"
	"testing"

	"tracery/api"
)

// What follows goes by the document's words and math/big, not by the packages
// that are tested.

func whole(n *big.Int) api.Whole { return api.Whole{Neg: n.Sign() < 0, Mag: string(n.Bytes())} }

func small(n int64) api.Whole { return whole(big.NewInt(n)) }

func fraction(r *big.Rat) api.Frac { return api.Frac{Num: whole(r.Num()), Den: whole(r.Denom())} }

func over(num, den int64) api.Frac { return fraction(big.NewRat(num, den)) }

func rat(num, den int64) *big.Rat { return big.NewRat(num, den) }

func none() *big.Rat { return new(big.Rat) }

func ofInt(n *big.Int) *big.Rat { return new(big.Rat).SetInt(n) }

func under(n *big.Int) *big.Rat { return new(big.Rat).SetFrac(big.NewInt(1), n) }

func plus(x, y *big.Rat) *big.Rat { return new(big.Rat).Add(x, y) }

func minus(x, y *big.Rat) *big.Rat { return new(big.Rat).Sub(x, y) }

func times(x, y *big.Rat) *big.Rat { return new(big.Rat).Mul(x, y) }

func quo(x, y *big.Rat) *big.Rat { return new(big.Rat).Quo(x, y) }

func inverse(x *big.Rat) *big.Rat { return new(big.Rat).Inv(x) }

func opposite(x *big.Rat) *big.Rat { return new(big.Rat).Neg(x) }

func square(x *big.Rat) *big.Rat { return times(x, x) }

func double(x *big.Rat) *big.Rat { return plus(x, x) }

func half(x *big.Rat) *big.Rat { return times(x, rat(1, 2)) }

func upTo(x *big.Rat) bool {
	return len(x.Num().Bytes()) <= api.MaxWhole && len(x.Denom().Bytes()) <= api.MaxWhole
}

// rootOf answers the fraction above 0 or 0 whose square x is, if there is one.
func rootOf(x *big.Rat) (*big.Rat, bool) {
	r := new(big.Rat).SetFrac(new(big.Int).Sqrt(x.Num()), new(big.Int).Sqrt(x.Denom()))
	return r, square(r).Cmp(x) == 0
}

// twos is 2 to the power n.
func twos(n uint) *big.Int { return new(big.Int).Lsh(big.NewInt(1), n) }

func more(n *big.Int, by int64) *big.Int { return new(big.Int).Add(n, big.NewInt(by)) }

func shared(n *big.Int, by int64) *big.Int { return new(big.Int).Quo(n, big.NewInt(by)) }

// top is the greatest number of a fraction, 256 to the power 1024 less 1; past
// is the next one, root its square root.
func top() *big.Int { return more(past(), -1) }

func past() *big.Int { return twos(8 * api.MaxWhole) }

func root() *big.Int { return twos(4 * api.MaxWhole) }

// num is an exact complex number by math/big.
type num struct{ re, im *big.Rat }

func in(re, im int64) num { return num{rat(re, 1), rat(im, 1)} }

func parts(a, b, c, d int64) num { return num{rat(a, b), rat(c, d)} }

func flat(x *big.Rat) num { return num{x, none()} }

func (z num) gauss() api.Gauss { return api.Gauss{Re: fraction(z.re), Im: fraction(z.im)} }

func (z num) fits() bool { return upTo(z.re) && upTo(z.im) }

func (z num) zero() bool { return z.re.Sign() == 0 && z.im.Sign() == 0 }

func (z num) same(w num) bool { return z.minus(w).zero() }

func (z num) plus(w num) num { return num{plus(z.re, w.re), plus(z.im, w.im)} }

func (z num) minus(w num) num { return z.plus(w.neg()) }

func (z num) neg() num { return num{opposite(z.re), opposite(z.im)} }

func (z num) conj() num { return num{z.re, opposite(z.im)} }

func (z num) scaled(by *big.Rat) num { return num{times(z.re, by), times(z.im, by)} }

func (z num) dot(w num) *big.Rat { return plus(times(z.re, w.re), times(z.im, w.im)) }

func (z num) norm() *big.Rat { return z.dot(z) }

func (z num) times(w num) num {
	return num{minus(times(z.re, w.re), times(z.im, w.im)), plus(times(z.re, w.im), times(z.im, w.re))}
}

func (z num) over(w num) num { return z.times(w.conj()).scaled(inverse(w.norm())) }

// pointing answers z squared over its norm: a number of the magnitude 1.
func (z num) pointing() num { return z.times(z).scaled(inverse(z.norm())) }

// ball is a disk by math/big, or four numbers that stand for none.
type ball struct {
	bend *big.Rat
	mid  num
	co   *big.Rat
}

func balled(bend, re, im, co int64) ball { return ball{rat(bend, 1), in(re, im), rat(co, 1)} }

// about is the disk about a centre with a radius, of one below 0 what lies
// outside: Co is what makes |Mid|^2 - Bend Co 1.
func about(centre num, radius *big.Rat) ball {
	mid := centre.scaled(inverse(radius))
	return ball{inverse(radius), mid, times(minus(mid.norm(), rat(1, 1)), radius)}
}

// beyond is the half plane that begins at a point and goes on along a number of
// the magnitude 1.
func beyond(p, along num) ball { return ball{none(), along, double(along.dot(p))} }

// The four of chapter 20's examples.
func o() ball { return about(in(0, 0), rat(-1, 1)) }

func a() ball { return about(parts(1, 2, 0, 1), rat(1, 2)) }

func b() ball { return about(parts(-1, 2, 0, 1), rat(1, 2)) }

func c() ball { return about(parts(0, 1, 2, 3), rat(1, 3)) }

func knot() quad { return quad{o(), a(), b(), c()} }

// strip is the chapter's: what is not above Im z = 0, what is not below
// Im z = 2, and the disks about i and 2 + i.
func strip() quad {
	return quad{beyond(in(0, 0), in(0, -1)), beyond(in(0, 2), in(0, 1)), about(in(0, 1), rat(1, 1)), about(in(2, 1), rat(1, 1))}
}

// knife is the row of the chapter's knife, by centres and radii.
func knife(x *big.Rat) quad {
	one := rat(1, 1)
	f := quad{about(flat(rat(1, 2)), rat(-1, 2)), about(flat(half(x)), half(x)), about(flat(half(plus(one, x))), half(minus(one, x)))}
	// With y being 1 - x the radius is x y / (2 (1 - x y)), the centre twice that
	// high, and (1 + x) / y times that far from 0. (wantKnife holds it against
	// the chapter's words: it touches all three, and is above.)
	y := minus(one, x)
	radius := quo(times(x, y), double(minus(one, times(x, y))))
	centre := num{times(quo(plus(one, x), y), radius), double(radius)}
	f[3] = about(centre, radius)
	return f
}

func (x ball) disk() api.Disk {
	return api.Disk{Bend: fraction(x.bend), Mid: x.mid.gauss(), Co: fraction(x.co)}
}

func (x ball) fits() bool { return upTo(x.bend) && x.mid.fits() && upTo(x.co) }

func (x ball) straight() bool { return x.bend.Sign() == 0 }

func (x ball) same(y ball) bool {
	return x.bend.Cmp(y.bend) == 0 && x.mid.same(y.mid) && x.co.Cmp(y.co) == 0
}

func (x ball) times(by *big.Rat) ball {
	return ball{times(x.bend, by), x.mid.scaled(by), times(x.co, by)}
}

func (x ball) plus(y ball) ball {
	return ball{plus(x.bend, y.bend), x.mid.plus(y.mid), plus(x.co, y.co)}
}

func (x ball) minus(y ball) ball { return x.plus(y.out()) }

func (x ball) out() ball { return x.times(rat(-1, 1)) }

// centre and radius are for what is no half plane; the radius has Bend's sign.
func (x ball) centre() num { return x.mid.scaled(inverse(x.bend)) }

func (x ball) radius() *big.Rat { return inverse(x.bend) }

// distance is how far a half plane is from a point outside of it, below 0 inside.
func (x ball) distance(z num) *big.Rat { return minus(half(x.co), x.mid.dot(z)) }

// lying is the product by centres, radii and distances.
func (x ball) lying(y ball) *big.Rat {
	if x.straight() {
		x, y = y, x
	}
	switch {
	case x.straight():
		return opposite(x.mid.dot(y.mid))
	case y.straight():
		return quo(y.distance(x.centre()), x.radius())
	}
	r, s, d := x.radius(), y.radius(), x.centre().minus(y.centre()).norm()
	return quo(minus(d, plus(square(r), square(s))), double(times(r, s)))
}

func (x ball) touches(y ball) bool {
	return x.lying(y).Cmp(rat(1, 1)) == 0 && !x.same(y.out())
}

func (x ball) slid(by num) ball {
	return ball{x.bend, x.mid.plus(by.scaled(x.bend)), plus(plus(x.co, double(x.mid.dot(by))), times(x.bend, by.norm()))}
}

// stretched is for numbers whose magnitude is a fraction.
func (x ball) stretched(by num) ball {
	size, _ := rootOf(by.norm())
	return ball{quo(x.bend, size), x.mid.times(by).scaled(inverse(size)), times(x.co, size)}
}

// quad is four disks by math/big: of a row the rails, disk 0 and disk 1.
type quad [4]ball

func (f quad) disks() [4]api.Disk {
	return [4]api.Disk{f[0].disk(), f[1].disk(), f[2].disk(), f[3].disk()}
}

func (f quad) fits() bool { return f[0].fits() && f[1].fits() && f[2].fits() && f[3].fits() }

func (f quad) same(g quad) bool {
	return f[0].same(g[0]) && f[1].same(g[1]) && f[2].same(g[2]) && f[3].same(g[3])
}

func (f quad) with(i int, x ball) quad {
	f[i] = x
	return f
}

// swapped is the same four in another order: another row.
func (f quad) swapped(i, j int) quad {
	f[i], f[j] = f[j], f[i]
	return f
}

func (f quad) out() quad { return quad{f[0].out(), f[1].out(), f[2].out(), f[3].out()} }

func (f quad) stretched(by num) quad { return stretch(by).images(f) }

func (f quad) slid(by num) quad { return slide(by).images(f) }

// touch tells whether each two of the four touch.
func (f quad) touch() bool {
	for i := range f {
		for j := range i {
			if !f[i].touches(f[j]) {
				return false
			}
		}
	}
	return true
}

// changed is chapter 20's.
func (f quad) changed(i int) quad {
	others := f[(i+1)%4].plus(f[(i+2)%4]).plus(f[(i+3)%4])
	f[i] = others.times(rat(2, 1)).minus(f[i])
	return f
}

// at is the chapter's formula.
func (f quad) at(n int) ball {
	way := f[3].minus(f[2]).times(rat(int64(n), 1))
	return f[2].plus(way).plus(f[0].plus(f[1]).times(rat(int64(n)*int64(n-1), 1)))
}

// on is the row that begins further on.
func (f quad) on(by int) quad { return quad{f[0], f[1], f.at(by), f.at(by + 1)} }

// upright tells whether a map that does not turn sends the row to the strip:
// whether it is not inside out, and winds as the strip does.
func (f quad) upright() bool {
	rails := f[0].plus(f[1])
	return plus(rails.bend, rails.co).Sign() > 0 && f.winding() == strip().winding()
}

// winding is the sign of the determinant of the four's numbers: maps that do not
// turn keep it, as turning inside out does, and those that turn change it.
func (f quad) winding() int {
	var rows [][]*big.Rat
	for _, x := range f {
		rows = append(rows, []*big.Rat{x.bend, x.mid.re, x.mid.im, x.co})
	}
	return determinant(rows).Sign()
}

// determinant goes by the first column.
func determinant(rows [][]*big.Rat) *big.Rat {
	if len(rows) == 0 {
		return rat(1, 1)
	}
	sum := none()
	for k, row := range rows {
		var others [][]*big.Rat
		for i, r := range rows {
			if i != k {
				others = append(others, r[1:])
			}
		}
		part := times(row[0], determinant(others))
		if k%2 == 1 {
			part = opposite(part)
		}
		sum = plus(sum, part)
	}
	return sum
}

// chart is a map by math/big, in its one form, of numbers of any length.
type chart struct {
	a, b, c, d num
	turns      bool
}

func still() chart { return slide(in(0, 0)) }

func slide(b num) chart { return chart{a: in(1, 0), b: b, c: in(0, 0), d: in(1, 0)} }

func stretch(a num) chart { return chart{a: a, b: in(0, 0), c: in(0, 0), d: in(1, 0)} }

// flip is z to 1 / z.
func flip() chart { return chart{a: in(0, 0), b: in(1, 0), c: in(1, 0), d: in(0, 0)} }

// round is the map with C being 1, of this A and D, and this A D - B.
func round(a, d, det num) chart { return chart{a: a, b: a.times(d).minus(det), c: in(1, 0), d: d} }

func (m chart) turned() chart {
	m.turns = !m.turns
	return m
}

func (m chart) mob() api.Mob {
	return api.Mob{A: m.a.gauss(), B: m.b.gauss(), C: m.c.gauss(), D: m.d.gauss(), Turns: m.turns}
}

func (m chart) fits() bool { return m.a.fits() && m.b.fits() && m.c.fits() && m.d.fits() }

func (m chart) det() num { return m.a.times(m.d).minus(m.b.times(m.c)) }

// exact tells whether the magnitude of the determinant is a fraction.
func (m chart) exact() bool {
	_, ok := rootOf(m.det().norm())
	return ok
}

// back undoes a map that does not turn.
func (m chart) back() chart {
	by := m.c.neg()
	if m.c.zero() {
		by = m.a
	}
	return chart{a: m.d.over(by), b: m.b.neg().over(by), c: m.c.neg().over(by), d: m.a.over(by)}
}

// image is for maps whose determinant's magnitude is a fraction. It goes step by
// step: a map is a slide, or a slide, z to 1 / z, a stretch, and a slide.
func (m chart) image(x ball) ball {
	if m.turns {
		x.mid = x.mid.conj()
	}
	if m.c.zero() {
		return x.stretched(m.a).slid(m.b)
	}
	x = x.slid(m.d)
	x = ball{x.co, x.mid.conj(), x.bend}
	return x.stretched(m.det().neg()).slid(m.a)
}

func (m chart) images(f quad) quad {
	return quad{m.image(f[0]), m.image(f[1]), m.image(f[2]), m.image(f[3])}
}

// brief tells an answer so that it can be read.
func brief(x any) string {
	switch v := x.(type) {
	case api.Frac:
		return briefRat(v)
	case api.Gauss:
		return "(" + briefRat(v.Re) + " " + briefRat(v.Im) + ")"
	case api.Mob:
		return fmt.Sprint("map ", brief(v.A), brief(v.B), brief(v.C), brief(v.D), v.Turns)
	case api.Disk:
		return fmt.Sprint("disk ", brief(v.Bend), brief(v.Mid), brief(v.Co))
	case [4]api.Disk:
		return strings.Join([]string{brief(v[0]), brief(v[1]), brief(v[2]), brief(v[3])}, ", ")
	case [2]api.Frac:
		return brief(v[0]) + ", " + brief(v[1])
	}
	return fmt.Sprint(x)
}

func briefRat(x api.Frac) string {
	s := new(big.Int).SetBytes([]byte(x.Num.Mag)).String() + "/" + new(big.Int).SetBytes([]byte(x.Den.Mag)).String()
	if x.Num.Neg {
		s = "-" + s
	}
	return s[:min(len(s), 30)]
}

// want wants an answer that can be held against another one by ==.
func want[T comparable](t *testing.T, what string, got T, e api.Errno, wanted T) {
	t.Helper()
	if got != wanted || e != api.OK {
		t.Fatalf("%s is %s, %v, want %s", what, brief(got), e, brief(wanted))
	}
}

// wantNone wants an error, and what is zero beside it.
func wantNone[T comparable](t *testing.T, what string, got T, e, wanted api.Errno) {
	t.Helper()
	var zero T
	if got != zero || e != wanted {
		t.Fatalf("%s is %s, %v, want nothing, %v", what, brief(got), e, wanted)
	}
}

// wantDisk wants the disk, or that it is too big.
func wantDisk(t *testing.T, what string, got api.Disk, e api.Errno, wanted ball) {
	t.Helper()
	if !wanted.fits() {
		wantNone(t, what, got, e, api.ErrBig)
		return
	}
	want(t, what, got, e, wanted.disk())
}

// wantRow wants the four, or that one of them is too big.
func wantRow(t *testing.T, what string, got [4]api.Disk, e api.Errno, wanted quad) {
	t.Helper()
	if !wanted.fits() {
		wantNone(t, what, got, e, api.ErrBig)
		return
	}
	want(t, what, got, e, wanted.disks())
}

// tally counts what was seen, so that a test can tell what it did not see.
type tally map[string]int

func (s tally) least(t *testing.T, count int, names ...string) {
	t.Helper()
	for _, name := range names {
		if s[name] < count {
			t.Errorf("%s: seen just %d times", name, s[name])
		}
	}
}

func (s tally) when(name string, ok bool) {
	if ok {
		s[name]++
	}
}

// fit counts what fits and what is too big.
func (s tally) fit(fits bool) {
	s.when("fits", fits)
	s.when("too big", !fits)
}
