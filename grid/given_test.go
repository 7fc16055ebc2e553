package grid_test

import (
	"math"
	"math/big"
	"math/rand"
	"strings"
	"testing"

	"tracery/api"
)

// wrongFracs are fractions that may not be.
func wrongFracs() []api.Frac {
	small := func(n int64) api.Whole { return whole(big.NewInt(n)) }
	one := small(1)
	return []api.Frac{
		{},
		{Num: one},
		{Num: small(0), Den: small(2)},
		{Num: one, Den: small(-2)},
		{Num: small(6), Den: small(4)},
		{Num: whole(top()), Den: whole(top())},
		{Num: whole(past()), Den: one},
		{Num: whole(new(big.Int).Neg(past())), Den: one},
		{Num: one, Den: whole(past())},
		{Num: api.Whole{Neg: true}, Den: one},
		{Num: api.Whole{Mag: "\x00\x02"}, Den: one},
		{Num: api.Whole{Mag: "\x00"}, Den: one},
		{Num: one, Den: api.Whole{Mag: "\x00"}},
		{Num: one, Den: api.Whole{Neg: true}},
		{Num: api.Whole{Mag: strings.Repeat("\x7f", api.MaxWide+1)}, Den: one},
	}
}

// wrongNumbers are numbers that may not be, for one part or for both.
func wrongNumbers() []api.Gauss {
	var l []api.Gauss
	for _, x := range wrongFracs() {
		y := fraction(rat(-1, 3))
		l = append(l, api.Gauss{Re: x, Im: y}, api.Gauss{Re: y, Im: x}, api.Gauss{Re: x, Im: x})
	}
	return l
}

// wrongPoints are points that may not be, infinity beside any number among them.
func wrongPoints() []api.Point {
	l := []api.Point{{Inf: true, Z: in(0, 0).gauss()}, {Inf: true, Z: in(1, 2).gauss()}, {Inf: true, Z: api.Gauss{Re: fraction(none())}}}
	for _, z := range wrongNumbers() {
		l = append(l, api.Point{Z: z})
	}
	return l
}

// wrongMaps are maps that may not be: for a number, for their form, for being
// flat. Each stands turned, too.
func wrongMaps() []api.Mob {
	l := []api.Mob{{}}
	for _, z := range wrongNumbers() {
		for _, m := range []api.Mob{still().mob(), charted(0, -1, 1, 0).mob()} {
			a, b, c, d := m, m, m, m
			a.A, b.B, c.C, d.D = z, z, z, z
			l = append(l, a, b, c, d)
		}
	}
	for _, m := range []chart{
		charted(2, 0, 0, 2), charted(-1, 0, 0, -1), charted(0, 1, -1, 0), charted(1, 0, 2, 1), charted(0, 0, 0, 0), charted(0, 5, 0, 1),
		charted(1, 1, 0, 0), charted(2, 6, 1, 3), {a: in(0, 1), b: in(0, 0), c: in(0, 0), d: in(0, 1)}, {a: in(1, 1), b: in(2, 0), c: in(1, 0), d: in(1, -1)},
	} {
		l = append(l, m.mob())
	}
	for _, m := range l {
		m.Turns = true
		l = append(l, m)
	}
	return l
}

// full makes whole numbers of just so many bytes, odd ones.
func full(r *rand.Rand, count int) *big.Int {
	b := make([]byte, count)
	r.Read(b)
	b[0] |= 0x80
	b[count-1] |= 1
	return new(big.Int).SetBytes(b)
}

// long makes fractions whose numbers have so many bytes.
func long(r *rand.Rand, count int) *big.Rat { return ratio(full(r, count), full(r, count)) }

func longNum(r *rand.Rand, count int) num { return num{long(r, count), long(r, count)} }

// odd makes fractions of at most so many bytes, of either sign, now and then 0.
func odd(r *rand.Rand, most int) *big.Rat {
	x := ratio(full(r, 1+r.Intn(most)), full(r, 1+r.Intn(most)))
	switch r.Intn(9) {
	case 0:
		return none()
	case 1, 2, 3, 4:
		return opposite(x)
	}
	return x
}

func oddNum(r *rand.Rand, most int) num { return num{odd(r, most), odd(r, most)} }

func oddSpot(r *rand.Rand, most int) spot {
	if r.Intn(9) == 0 {
		return far()
	}
	return at(oddNum(r, most))
}

// oddChart makes maps in their one form.
func oddChart(r *rand.Rand, most int) chart {
	for {
		m := chart{oddNum(r, most), oddNum(r, most), in(1, 0), oddNum(r, most), r.Intn(2) == 0}
		if r.Intn(4) == 0 {
			m.c, m.d = in(0, 0), in(1, 0)
		}
		if !m.det().zero() {
			return m
		}
	}
}

// steps makes numbers that New takes as right and up.
func steps(r *rand.Rand, most int) (num, num) {
	for {
		right, up := oddNum(r, most), oddNum(r, most)
		if right.conj().times(up).im.Sign() != 0 {
			return right, up
		}
	}
}

// charts are maps in their one form, turned and not: such that leave infinity
// where it is, and such that do not; such that send a corner of unit to it.
func charts() []chart {
	l := []chart{
		still(), charted(0, 1, 1, 0), charted(0, -2, 1, -2), charted(0, -1, 1, 1), slide(in(3, -2)), stretch(in(0, 1)), stretch(parts(1, 2, -1, 3)),
		{a: in(1, 0), b: in(0, -1), c: in(1, 0), d: in(0, 1)}, {a: parts(1, 3, 0, 1), b: in(0, 5), c: in(1, 0), d: parts(-1, 1, -1, 1)}, {a: in(2, 1), b: in(0, 0), c: in(0, 0), d: in(1, 0)},
	}
	r := rand.New(rand.NewSource(2600))
	for n := range 6 {
		l = append(l, oddChart(r, 1+n))
	}
	for _, m := range l {
		l = append(l, m.turned())
	}
	return l
}

// unit is the grid of the chapter's examples.
func unit() lattice { return laid(in(0, 0), in(1, 0), in(0, 1), 2, 1) }

// nets are grids of all kinds: as New makes them and images of these, even and
// not; with infinity, with points that are the same, on one circle, on a line.
func nets() []lattice {
	r := rand.New(rand.NewSource(2610))
	l := []lattice{
		unit(), laid(in(0, 0), in(1, 0), in(0, 1), 1, 1), laid(in(-1, 2), in(2, 1), in(-1, 3), 3, 2), laid(parts(1, 2, -1, 3), in(0, 2), in(3, 0), 1, 4), laid(in(5, 5), in(1, 0), in(1, 1), 4, 1),
		laid(in(0, 0), parts(-1, 7, 0, 1), parts(2, 3, -5, 9), 2, 2),
	}
	for n := range 12 {
		right, up := steps(r, 1+n/4)
		l = append(l, laid(oddNum(r, 2), right, up, 1+r.Intn(4), 1+r.Intn(4)))
	}
	for n, m := range charts() {
		l = append(l, l[n%len(l)].image(m))
	}
	pool := []spot{far(), on(0, 0), on(1, 0), on(0, 1), on(1, 1), on(2, 0), at(parts(1, 2, -3, 2))}
	rim := []spot{on(1, 0), on(0, 1), on(-1, 0), at(parts(3, 5, 4, 5)), at(parts(-4, 5, 3, 5)), at(parts(5, 13, -12, 13)), on(0, -1)}
	flat := []spot{on(0, 0), on(1, 0), far(), on(-7, 0), at(parts(22, 7, 0, 1)), on(2, 0)}
	for n := range 120 {
		from := [][]spot{pool, rim, flat, pool[:2], pool[1:4]}[n%5]
		g := lattice{w: 1 + r.Intn(3), h: 1 + r.Intn(3)}
		for range (g.w + 1) * (g.h + 1) {
			g.l = append(g.l, from[r.Intn(len(from))])
		}
		l = append(l, g)
	}
	for range 20 {
		g := lattice{w: 1 + r.Intn(3), h: 1 + r.Intn(3)}
		for range (g.w + 1) * (g.h + 1) {
			g.l = append(g.l, oddSpot(r, 6))
		}
		l = append(l, g)
	}
	return l
}

// squares goes over all grids of one square whose corners are near 0, or
// infinity.
func squares(do func(g lattice)) {
	pool := []spot{far(), on(0, 0), on(1, 0), on(0, 1), on(1, 1), on(2, 0), at(parts(1, 2, -3, 2))}
	for n := range len(pool) * len(pool) * len(pool) * len(pool) {
		g := lattice{w: 1, h: 1}
		for range 4 {
			g.l = append(g.l, pool[n%len(pool)])
			n /= len(pool)
		}
		do(g)
	}
}

// outside are numbers that are no i of a grid with so many squares on that side,
// or no j.
func outside(side int) []int {
	return []int{-1, -2, side + 1, side + 2, 64, 65, 1 << 32, math.MaxInt, math.MaxInt - 1, math.MinInt, math.MinInt + 1}
}

func TestGiven(t *testing.T) { // what the tests lean on
	for n, g := range nets() {
		if len(g.l) != (g.w+1)*(g.h+1) || !g.fits() {
			t.Errorf("the grid %d is none", n)
		}
	}
	for n, m := range charts() {
		if !m.fits() || m.det().zero() || m.formed().mob() != m.mob() {
			t.Errorf("the map %d is none", n)
		}
	}
	if k := solved(on(1, 0), on(0, 1), on(-1, 0)); k.circle() != about(in(0, 0), one()).circle() {
		t.Error("the unit circle is", brief(k.circle()))
	}
	if k := solved(on(0, 0), on(1, 0), far()); k.circle() != (ring{none(), in(0, 1), none()}).circle() {
		t.Error("the real line is", brief(k.circle()))
	}
}
