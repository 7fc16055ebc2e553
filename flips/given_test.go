package flips_test

import (
	"math/big"
	"math/rand"
	"slices"
	"strings"
	"testing"

	"tracery/api"
	"tracery/nets"
)

// wrongFracs are fractions that may not be.
func wrongFracs() []api.Frac {
	small := func(n int64) api.Whole { return whole(big.NewInt(n)) }
	one := small(1)
	return []api.Frac{
		{},
		{Num: one},
		{Num: small(0), Den: small(2)},
		{Num: one, Den: small(-2)},
		{Num: small(6), Den: small(4)},
		{Num: whole(top()), Den: whole(top())},
		{Num: whole(past()), Den: one},
		{Num: whole(new(big.Int).Neg(past())), Den: one},
		{Num: one, Den: whole(past())},
		{Num: api.Whole{Neg: true}, Den: one},
		{Num: api.Whole{Mag: "\x00\x02"}, Den: one},
		{Num: api.Whole{Mag: "\x00"}, Den: one},
		{Num: one, Den: api.Whole{Mag: "\x00"}},
		{Num: one, Den: api.Whole{Neg: true}},
		{Num: api.Whole{Mag: strings.Repeat("\x7f", api.MaxWide+1)}, Den: one},
	}
}

// wrongNumbers are numbers that may not be, for one part or for both.
func wrongNumbers() []api.Gauss {
	var l []api.Gauss
	for _, x := range wrongFracs() {
		y := fraction(rat(-1, 3))
		l = append(l, api.Gauss{Re: x, Im: y}, api.Gauss{Re: y, Im: x}, api.Gauss{Re: x, Im: x})
	}
	return l
}

// wrongLabels are 0, too.
func wrongLabels() []api.Gauss { return append(wrongNumbers(), in(0, 0).gauss()) }

// wrongPoints are points that may not be, infinity beside any number among them.
func wrongPoints() []api.Point {
	l := []api.Point{{Inf: true, Z: in(0, 0).gauss()}, {Inf: true, Z: in(1, 2).gauss()}, {Inf: true, Z: api.Gauss{Re: fraction(none())}}}
	for _, z := range wrongNumbers() {
		l = append(l, api.Point{Z: z})
	}
	return l
}

// nothing are nets that are not there: nil, and zero ones that no call made.
func nothing() []*nets.Net {
	var none *nets.Net
	refused, _ := nets.New(api.NetSides{})
	return []*nets.Net{nil, none, {}, new(nets.Net), refused}
}

// full makes whole numbers of just so many bytes, odd ones.
func full(r *rand.Rand, count int) *big.Int {
	b := make([]byte, count)
	r.Read(b)
	b[0] |= 0x80
	b[count-1] |= 1
	return new(big.Int).SetBytes(b)
}

// long makes fractions whose numbers have so many bytes.
func long(r *rand.Rand, count int) *big.Rat { return ratio(full(r, count), full(r, count)) }

func longNum(r *rand.Rand, count int) num { return num{long(r, count), long(r, count)} }

// odd makes fractions of at most so many bytes, of either sign, now and then 0.
func odd(r *rand.Rand, most int) *big.Rat {
	x := ratio(full(r, 1+r.Intn(most)), full(r, 1+r.Intn(most)))
	switch r.Intn(9) {
	case 0:
		return none()
	case 1, 2, 3, 4:
		return opposite(x)
	}
	return x
}

func oddNum(r *rand.Rand, most int) num { return num{odd(r, most), odd(r, most)} }

func oddLabel(r *rand.Rand, most int) num {
	z := oddNum(r, most)
	for z.zero() {
		z = oddNum(r, most)
	}
	return z
}

func oddSpot(r *rand.Rand, most int) spot {
	if r.Intn(9) == 0 {
		return far()
	}
	return at(oddNum(r, most))
}

// charts are maps in their one form: such that leave infinity where it is, and
// such that do not; such that send a corner of unit to it.
func charts() []chart {
	l := []chart{
		still(), charted(0, 1, 1, 0), charted(0, -2, 1, -2), charted(0, -1, 1, 1), slide(in(3, -2)), stretch(in(0, 1)), stretch(parts(1, 2, -1, 3)),
		{in(1, 0), in(0, -1), in(1, 0), in(-1, -1)}, {parts(1, 3, 0, 1), in(0, 5), in(1, 0), parts(-1, 1, -1, 1)}, {in(2, 1), in(0, 0), in(0, 0), in(1, 0)},
	}
	r := rand.New(rand.NewSource(2800))
	for n := range 4 {
		m := chart{oddNum(r, 1+n), oddNum(r, 1+n), in(1, 0), oddNum(r, 1+n)}
		if !m.det().zero() {
			l = append(l, m)
		}
	}
	return l
}

func repeated(z num, count int) []num { return slices.Repeat([]num{z}, count) }

// straight are the whole numbers from 0 on, so many of them, times a number.
func straight(count int, by num) []spot {
	var l []spot
	for k := range count {
		l = append(l, at(by.times(in(int64(k), 0))))
	}
	return l
}

// square is w by h squares whose corners are whole, each with the ratio -1.
func square(w, h int) edges {
	return edges{repeated(in(1, 0), w), repeated(in(-1, 0), h), straight(w+1, in(1, 0)), straight(h+1, in(0, 1))}
}

// unit is the net of the chapter's examples.
func unit() edges { return square(2, 2) }

// smallLabel and pooled make few that are unlike, so that much is the same.
func smallLabel(r *rand.Rand) num {
	pool := []num{in(1, 0), in(-1, 0), in(2, 0), in(0, 1), in(0, -1), in(1, 1), parts(1, 2, 0, 1), parts(-1, 3, 1, 2), in(3, -1), in(-2, 0)}
	return pool[r.Intn(len(pool))]
}

func pooled(r *rand.Rand) spot {
	pool := []spot{far(), on(0, 0), on(1, 0), on(0, 1), on(1, 1), on(2, 0), on(-1, 0), on(0, 2), at(parts(1, 2, -3, 2)), at(parts(1, 3, 0, 1)), on(3, 4), at(parts(0, 1, 1, 2)), on(5, 0), on(-2, 1)}
	return pool[r.Intn(len(pool))]
}

// goingWith makes a number that goes with labels.
func goingWith(labels []num, next func() num) num {
	z := next()
	for !z.goes(labels...) {
		z = next()
	}
	return z
}

// oddEdges makes edges by what makes labels and points; often something is
// refused by them.
func oddEdges(w, h int, label func() num, next func() spot) edges {
	var s edges
	for range w {
		s.a = append(s.a, goingWith(nil, label))
	}
	for range h {
		s.b = append(s.b, goingWith(s.a, label))
	}
	first := next()
	s.row, s.column = []spot{first}, []spot{first}
	for range w {
		s.row = append(s.row, next())
	}
	for range h {
		s.column = append(s.column, next())
	}
	return s
}

// meshes are nets of all kinds, infinity among their corners.
func meshes(seed int64, count int) []mesh {
	var l []mesh
	add := func(s edges) {
		if n, no := s.filled(); len(no) == 0 {
			l = append(l, n)
		}
	}
	for _, s := range []edges{unit(), square(1, 1), square(3, 1), square(1, 4)} {
		for _, m := range charts() {
			add(s.image(m))
		}
	}
	r := rand.New(rand.NewSource(seed))
	for range count {
		add(oddEdges(1+r.Intn(3), 1+r.Intn(3), func() num { return smallLabel(r) }, func() spot { return pooled(r) }))
	}
	for n := range 20 {
		add(oddEdges(1+r.Intn(3), 1+r.Intn(3), func() num { return oddNum(r, 1+n/10) }, func() spot { return oddSpot(r, 1+n/10) }))
	}
	return l
}

// denominator is the least number that makes all parts whole; reach is the
// greatest magnitude of these then.
func denominator(l []spot) *big.Int {
	by := big.NewInt(1)
	for _, p := range l {
		if p.inf {
			continue
		}
		for _, x := range []*big.Rat{p.z.re, p.z.im} {
			by.Mul(by, new(big.Int).Quo(x.Denom(), new(big.Int).GCD(nil, nil, by, x.Denom())))
		}
	}
	return by
}

func reach(l []spot, by *big.Int) *big.Int {
	most := new(big.Int)
	for _, p := range l {
		if p.inf {
			continue
		}
		for _, x := range []*big.Rat{p.z.re, p.z.im} {
			if y := new(big.Int).Abs(times(x, ofInt(by)).Num()); y.Cmp(most) > 0 {
				most = y
			}
		}
	}
	return most
}

// between is a stretch by which all of these are still short enough, and some of
// the others are not; whether there is one.
func between(these, others []spot) (chart, bool) {
	by := denominator(slices.Concat(these, others))
	low, high := reach(these, by), reach(others, by)
	if low.Sign() == 0 || low.Cmp(high) >= 0 || low.Cmp(top()) > 0 {
		return chart{}, false
	}
	by.Mul(by, new(big.Int).Quo(top(), low))
	return stretch(along(ofInt(by))), true
}

func (n mesh) spots() []spot { return slices.Concat(n.rows...) }

func TestGiven(t *testing.T) { // what the tests lean on
	seen := tally{}
	for _, n := range meshes(2801, 900) {
		seen["net"]++
		if len(n.a) != len(n.b) {
			seen["of unlike sides"]++
		}
		for _, l := range n.rows {
			for _, p := range l {
				if p.inf {
					seen["infinity"]++
				}
			}
		}
		wantNet(t, "New", n.net(t), api.OK, n)
	}
	seen.least(t, 30, "net", "of unlike sides", "infinity")
	for n, m := range charts() {
		if !m.fits() || m.det().zero() || m.formed().mob() != m.mob() {
			t.Errorf("the map %d is none", n)
		}
	}
	r := rand.New(rand.NewSource(2802))
	for range 200 {
		p, q, s, k := pooled(r), pooled(r), pooled(r), goingWith([]num{in(1, 0)}, func() num { return smallLabel(r) })
		if unlike(p, q, s) && !(four{p, q, corner(p, q, s, k), s}).fits(k) {
			t.Error("a corner does not fit")
		}
		if unlike(p, q) {
			m := step(p, q, k)
			if !m.at(p).same(p) || !m.at(q).same(q) || unlike(p, q, s) && !m.at(s).same(corner(p, q, s, k)) {
				t.Error("a step goes elsewhere")
			}
		}
	}
}
