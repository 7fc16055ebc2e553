package nets_test

import (
	"math"
	"math/big"
	"math/rand"
	"slices"
	"strings"
	"testing"

	"tracery/api"
)

// wrongFracs are fractions that may not be.
func wrongFracs() []api.Frac {
	small := func(n int64) api.Whole { return whole(big.NewInt(n)) }
	one := small(1)
	return []api.Frac{
		{},
		{Num: one},
		{Num: small(0), Den: small(2)},
		{Num: one, Den: small(-2)},
		{Num: small(6), Den: small(4)},
		{Num: whole(top()), Den: whole(top())},
		{Num: whole(past()), Den: one},
		{Num: whole(new(big.Int).Neg(past())), Den: one},
		{Num: one, Den: whole(past())},
		{Num: api.Whole{Neg: true}, Den: one},
		{Num: api.Whole{Mag: "\x00\x02"}, Den: one},
		{Num: api.Whole{Mag: "\x00"}, Den: one},
		{Num: one, Den: api.Whole{Mag: "\x00"}},
		{Num: one, Den: api.Whole{Neg: true}},
		{Num: api.Whole{Mag: strings.Repeat("\x7f", api.MaxWide+1)}, Den: one},
	}
}

// wrongNumbers are numbers that may not be, for one part or for both.
func wrongNumbers() []api.Gauss {
	var l []api.Gauss
	for _, x := range wrongFracs() {
		y := fraction(rat(-1, 3))
		l = append(l, api.Gauss{Re: x, Im: y}, api.Gauss{Re: y, Im: x}, api.Gauss{Re: x, Im: x})
	}
	return l
}

// wrongPoints are points that may not be, infinity beside any number among them.
func wrongPoints() []api.Point {
	l := []api.Point{{Inf: true, Z: in(0, 0).gauss()}, {Inf: true, Z: in(1, 2).gauss()}, {Inf: true, Z: api.Gauss{Re: fraction(none())}}}
	for _, z := range wrongNumbers() {
		l = append(l, api.Point{Z: z})
	}
	return l
}

// wrongMaps are maps that may not be: for a number, for their form, for being
// flat. Each stands turned, too.
func wrongMaps() []api.Mob {
	l := []api.Mob{{}}
	for _, z := range wrongNumbers() {
		for _, m := range []api.Mob{still().mob(), charted(0, -1, 1, 0).mob()} {
			a, b, c, d := m, m, m, m
			a.A, b.B, c.C, d.D = z, z, z, z
			l = append(l, a, b, c, d)
		}
	}
	for _, m := range []chart{
		charted(2, 0, 0, 2), charted(-1, 0, 0, -1), charted(0, 1, -1, 0), charted(1, 0, 2, 1), charted(0, 0, 0, 0), charted(0, 5, 0, 1),
		charted(1, 1, 0, 0), charted(2, 6, 1, 3), {a: in(0, 1), b: in(0, 0), c: in(0, 0), d: in(0, 1)}, {a: in(1, 1), b: in(2, 0), c: in(1, 0), d: in(1, -1)},
	} {
		l = append(l, m.mob())
	}
	for _, m := range l {
		m.Turns = true
		l = append(l, m)
	}
	return l
}

// full makes whole numbers of just so many bytes, odd ones.
func full(r *rand.Rand, count int) *big.Int {
	b := make([]byte, count)
	r.Read(b)
	b[0] |= 0x80
	b[count-1] |= 1
	return new(big.Int).SetBytes(b)
}

// long makes fractions whose numbers have so many bytes.
func long(r *rand.Rand, count int) *big.Rat { return ratio(full(r, count), full(r, count)) }

func longNum(r *rand.Rand, count int) num { return num{long(r, count), long(r, count)} }

// odd makes fractions of at most so many bytes, of either sign, now and then 0.
func odd(r *rand.Rand, most int) *big.Rat {
	x := ratio(full(r, 1+r.Intn(most)), full(r, 1+r.Intn(most)))
	switch r.Intn(9) {
	case 0:
		return none()
	case 1, 2, 3, 4:
		return opposite(x)
	}
	return x
}

func oddNum(r *rand.Rand, most int) num { return num{odd(r, most), odd(r, most)} }

func oddSpot(r *rand.Rand, most int) spot {
	if r.Intn(9) == 0 {
		return far()
	}
	return at(oddNum(r, most))
}

// oddChart makes maps in their one form.
func oddChart(r *rand.Rand, most int) chart {
	for {
		m := chart{oddNum(r, most), oddNum(r, most), in(1, 0), oddNum(r, most), r.Intn(2) == 0}
		if r.Intn(4) == 0 {
			m.c, m.d = in(0, 0), in(1, 0)
		}
		if !m.det().zero() {
			return m
		}
	}
}

// charts are maps in their one form, turned and not: such that leave infinity
// where it is, and such that do not; such that send a corner of unit to it.
func charts() []chart {
	l := []chart{
		still(), charted(0, 1, 1, 0), charted(0, -2, 1, -2), charted(0, -1, 1, 1), slide(in(3, -2)), stretch(in(0, 1)), stretch(parts(1, 2, -1, 3)),
		{a: in(1, 0), b: in(0, -1), c: in(1, 0), d: in(-1, -1)}, {a: parts(1, 3, 0, 1), b: in(0, 5), c: in(1, 0), d: parts(-1, 1, -1, 1)}, {a: in(2, 1), b: in(0, 0), c: in(0, 0), d: in(1, 0)},
	}
	r := rand.New(rand.NewSource(2700))
	for n := range 6 {
		l = append(l, oddChart(r, 1+n))
	}
	for _, m := range l {
		l = append(l, m.turned())
	}
	return l
}

func repeated(z num, count int) []num { return slices.Repeat([]num{z}, count) }

// square is w by h squares whose corners are whole, each with the ratio -1.
func square(w, h int) edges {
	s := edges{a: repeated(in(1, 0), w), b: repeated(in(-1, 0), h)}
	for i := range w + 1 {
		s.row = append(s.row, on(int64(i), 0))
	}
	for j := range h + 1 {
		s.column = append(s.column, on(0, int64(j)))
	}
	return s
}

// unit is the net of the chapter's examples.
func unit() edges { return square(2, 2) }

func (s edges) turned() edges { return edges{a: s.b, b: s.a, row: s.column, column: s.row} }

// image wants a map that does not turn.
func (s edges) image(m chart) edges {
	o := edges{a: s.a, b: s.b}
	for _, p := range s.row {
		o.row = append(o.row, m.at(p))
	}
	for _, p := range s.column {
		o.column = append(o.column, m.at(p))
	}
	return o
}

// oddLabels makes labels, of which now and then two of one side are the same.
func oddLabels(w, h int, next func() num) (a, b []num) {
	for len(a) < w {
		if z := next(); !z.zero() {
			a = append(a, z)
		}
	}
	for len(b) < h {
		z := next()
		if !z.zero() && !slices.ContainsFunc(a, func(x num) bool { return x.minus(z).zero() }) {
			b = append(b, z)
		}
	}
	return a, b
}

// oddEdges makes edges by what makes labels and points; often something is
// refused by them.
func oddEdges(w, h int, label func() num, next func() spot) edges {
	var s edges
	s.a, s.b = oddLabels(w, h, label)
	first := next()
	s.row, s.column = []spot{first}, []spot{first}
	for range w {
		s.row = append(s.row, next())
	}
	for range h {
		s.column = append(s.column, next())
	}
	return s
}

// smallLabel and pooled make few that are unlike, so that much is the same.
func smallLabel(r *rand.Rand) func() num {
	pool := []num{in(1, 0), in(-1, 0), in(2, 0), in(0, 1), in(0, -1), in(1, 1), parts(1, 2, 0, 1), parts(-1, 3, 1, 2), in(3, -1), in(-2, 0)}
	return func() num { return pool[r.Intn(len(pool))] }
}

func pooled(r *rand.Rand) func() spot {
	pool := []spot{far(), on(0, 0), on(1, 0), on(0, 1), on(1, 1), on(2, 0), on(-1, 0), on(0, 2), at(parts(1, 2, -3, 2)), at(parts(1, 3, 0, 1)), on(3, 4), at(parts(0, 1, 1, 2)), on(5, 0), on(-2, 1)}
	return func() spot { return pool[r.Intn(len(pool))] }
}

// pools makes edges of a few squares, of all kinds.
func pools(seed int64, count int, do func(s edges)) {
	r := rand.New(rand.NewSource(seed))
	for range count {
		do(oddEdges(1+r.Intn(4), 1+r.Intn(4), smallLabel(r), pooled(r)))
	}
}

// meshes are nets of all kinds, infinity among their corners.
func meshes() []mesh {
	var l []mesh
	add := func(s edges) {
		if n, no := s.filled(); len(no) == 0 {
			l = append(l, n)
		}
	}
	for _, s := range []edges{unit(), square(1, 1), square(3, 1), square(1, 4)} {
		add(s)
		for _, m := range charts()[:16] {
			if !m.turns {
				add(s.image(m))
			}
		}
	}
	pools(2710, 900, add)
	r := rand.New(rand.NewSource(2711))
	for n := range 30 {
		add(oddEdges(1+r.Intn(3), 1+r.Intn(3), func() num { return oddNum(r, 1+n/10) }, func() spot { return oddSpot(r, 1+n/10) }))
	}
	return l
}

// outside are numbers that are none from least to most.
func outside(least, most int) []int {
	return []int{least - 1, least - 2, most + 1, most + 2, 65, 66, -1, -64, 1 << 32, -1 << 32, math.MaxInt, math.MaxInt - 1, math.MinInt, math.MinInt + 1}
}

// beyond goes over places of which i, j or both are outside.
func beyond(least, w, h int, do func(i, j int)) {
	for _, i := range outside(least, w) {
		for j := least; j <= h; j++ {
			do(i, j)
		}
		for _, j := range outside(least, h) {
			do(i, j)
		}
	}
	for _, j := range outside(least, h) {
		for i := least; i <= w; i++ {
			do(i, j)
		}
	}
}

func TestGiven(t *testing.T) { // what the tests lean on
	seen := tally{}
	for _, n := range meshes() {
		seen["net"]++
		if len(n.a) != len(n.b) {
			seen["of unlike sides"]++
		}
		for j := range n.b {
			for i := range n.a {
				if l := n.four(i+1, j+1); !l.fits(n.ratio(i+1, j+1)) || !n.fits() {
					t.Error("a square of a net does not fit")
				} else if l[2].inf {
					seen["infinity came out"]++
				}
			}
		}
	}
	seen.least(t, 10, "net", "of unlike sides", "infinity came out")
	for n, m := range charts() {
		if !m.fits() || m.det().zero() || m.formed().mob() != m.mob() {
			t.Errorf("the map %d is none", n)
		}
	}
}
