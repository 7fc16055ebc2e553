package descartes_test

import (
	"math/big"
	"math/rand"
	"testing"

	"tracery/api"
	"tracery/descartes"
)

// wantFourth wants the two of P20.4, x being one of them.
func wantFourth(t *testing.T, f quad) {
	t.Helper()
	x, y := f[3], f.changed(3)[3]
	if y.before(x) {
		x, y = y, x
	}
	if !x.before(y) || x.same(y) {
		t.Fatal("both are the same")
	}
	d, e, wrong := descartes.Fourth(f[0].disk(), f[1].disk(), f[2].disk())
	if !x.fits() || !y.fits() {
		wantNone(t, "the first one of Fourth", d, wrong, api.ErrBig)
		wantNone(t, "the second one of Fourth", e, wrong, api.ErrBig)
		return
	}
	want(t, "the first one of Fourth", d, wrong, x.disk())
	want(t, "the second one of Fourth", e, wrong, y.disk())
	for _, z := range []ball{x, y} {
		if !f.with(3, z).touch() {
			t.Fatal("it does not touch all three")
		}
	}
}

// ways are the orders in which four can stand of which each one is the last once.
func (f quad) ways() []quad {
	return []quad{f, {f[3], f[1], f[0], f[2]}, {f[2], f[3], f[0], f[1]}, {f[2], f[1], f[3], f[0]}}
}

func TestFourth(t *testing.T) { // P20.4
	seen := tally{}
	quads(2040, 300, func(f quad) {
		for _, g := range f.ways() {
			wantFourth(t, g)
			x, y := g[3], g.changed(3)[3]
			even := x.bend.Cmp(y.bend) == 0
			seen.when("one Bend", even)
			seen.when("one Bend, one real part", even && x.mid.re.Cmp(y.mid.re) == 0)
			seen.when("a half plane among the three", g[0].straight() || g[1].straight() || g[2].straight())
			seen.when("a half plane comes", x.straight() || y.straight())
			seen.when("two half planes come", x.straight() && y.straight())
		}
	})
	seen.least(t, 10, "one Bend", "one Bend, one real part", "a half plane among the three", "a half plane comes")
}

func TestFourthExamples(t *testing.T) { // P20.4
	half, other := balled(0, 0, -1, 0), balled(0, 0, 1, 4)
	for _, x := range []struct {
		what          string
		three         [3]ball
		first, second ball
	}{
		{"o, a, b", [3]ball{o(), a(), b()}, about(parts(0, 1, -2, 3), rat(1, 3)), c()},
		{"a, b, c", [3]ball{a(), b(), c()}, about(parts(0, 1, 4, 15), rat(1, 15)), o()},
		{"b, a, o", [3]ball{b(), a(), o()}, about(parts(0, 1, -2, 3), rat(1, 3)), c()},
		{"between two lines", [3]ball{half, balled(1, 2, 1, 4), other}, balled(1, 0, 1, 0), balled(1, 4, 1, 16)},
		{"on a line", [3]ball{balled(1, 0, 1, 0), half, balled(1, 2, 1, 4)}, balled(4, 4, 1, 4), other},
		{"on a line, turned", [3]ball{balled(1, 1, 0, 0), balled(0, -1, 0, 0), balled(1, 1, 2, 4)}, balled(4, 1, 4, 4), balled(0, 1, 0, 4)},
		{"between upright lines", [3]ball{balled(0, -1, 0, 0), balled(1, 1, 0, 0), balled(0, 1, 0, 4)}, balled(1, 1, -2, 4), balled(1, 1, 2, 4)},
		{"all inside out", [3]ball{o().out(), a().out(), b().out()}, c().out(), about(parts(0, 1, -2, 3), rat(-1, 3))},
	} {
		d, e, wrong := descartes.Fourth(x.three[0].disk(), x.three[1].disk(), x.three[2].disk())
		want(t, "the first one of "+x.what, d, wrong, x.first.disk())
		want(t, "the second one of "+x.what, e, wrong, x.second.disk())
	}
}

func TestFourthLong(t *testing.T) { // P20.4
	r := rand.New(rand.NewSource(2041))
	seen := tally{}
	see := func(f quad) {
		t.Helper()
		for _, g := range f.ways() {
			if three := (quad{g[0], g[1], g[2], o()}); three.fits() {
				seen.fit(g.fits() && g.changed(3).fits())
				wantFourth(t, g)
			}
		}
	}
	for n := range 5 {
		see(stretch(flat(fullRat(r, 1000+6*n))).images(knot()))
		see(stretch(fullUnit(r, 505+2*n)).images(strip().row(int64(n))))
		see(slide(flat(ofInt(full(r, 508+2*n)))).images(knot()))
		see(slide(num{rat(1, 2), fullRat(r, 250+4*n)}).images(knot()))
	}
	see(fordAt(more(twos(4095), 1)))
	see(fordAt(more(twos(4095), -2)))
	see(split())
	see(split().changed(3))
	seen.least(t, 5, "fits", "too big")
}

func TestFourthRefuses(t *testing.T) { // P20.4
	refused := func(what string, x, y, z api.Disk, wanted api.Errno) {
		t.Helper()
		d, e, wrong := descartes.Fourth(x, y, z)
		wantNone(t, what, d, wrong, wanted)
		wantNone(t, what, e, wrong, wanted)
	}
	x, y, z, far := o().disk(), a().disk(), b().disk(), about(in(50, 0), rat(1, 1)).disk()
	for _, d := range wrongDisks() {
		refused("Fourth of a wrong first one", d, y, z, api.ErrArg)
		refused("Fourth of a wrong second one", x, d, z, api.ErrArg)
		refused("Fourth of a wrong third one", x, y, d, api.ErrArg)
		refused("Fourth of a wrong one and two that do not touch", y, y, d, api.ErrArg)
	}
	refused("Fourth of the same twice", y, z, z, api.ErrTouch)
	refused("Fourth of the same twice", z, z, y, api.ErrTouch)
	refused("Fourth of the same twice", z, y, z, api.ErrTouch)
	refused("Fourth of one and itself inside out", x, o().out().disk(), y, api.ErrTouch)
	refused("Fourth of one far off", x, y, far, api.ErrTouch)
	refused("Fourth of one far off", far, x, y, api.ErrTouch)
	refused("Fourth of one far off", x, far, y, api.ErrTouch)
	refused("Fourth of three half planes", balled(0, 1, 0, 0).disk(), balled(0, -1, 0, 2).disk(), balled(0, 1, 0, 4).disk(), api.ErrTouch)
	l := longs()
	refused("Fourth of long ones", l[0].disk(), l[2].disk(), l[3].disk(), api.ErrTouch)
}

// split is four that touch each other and may be, of which the one that the last
// one is changed for has a lesser Bend that is too long: what stands under it
// divides the Bends of the others, but not its own.
func split() quad {
	p, q := more(twos(89), -1), more(twos(107), -1)
	by := new(big.Int).Mul(p, q)
	// n is p times a number, and n + 1 is q times one.
	n := new(big.Int).ModInverse(p, q)
	n.Sub(q, n).Mul(n, p).Add(n, new(big.Int).Mul(by, twos(3904)))
	return stretch(flat(ofInt(by))).images(fordAt(n))
}
