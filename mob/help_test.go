package mob_test

import (
	"math/big"
	"math/rand"
	"strings"
	"testing"

	"tracery/api"
)

// whole, bigOf, fraction and ratOf go by the document's words and math/big, not
// by the packages that are tested.
func whole(n *big.Int) api.Whole { return api.Whole{Neg: n.Sign() < 0, Mag: string(n.Bytes())} }

func small(n int64) api.Whole { return whole(big.NewInt(n)) }

func bigOf(a api.Whole) *big.Int {
	n := new(big.Int).SetBytes([]byte(a.Mag))
	if a.Neg {
		n.Neg(n)
	}
	return n
}

func fraction(r *big.Rat) api.Frac { return api.Frac{Num: whole(r.Num()), Den: whole(r.Denom())} }

func over(num, den int64) api.Frac { return fraction(big.NewRat(num, den)) }

func ratOf(x api.Frac) *big.Rat { return new(big.Rat).SetFrac(bigOf(x.Num), bigOf(x.Den)) }

func ofInt(n *big.Int) *big.Rat { return new(big.Rat).SetInt(n) }

func none() *big.Rat { return new(big.Rat) }

func half() *big.Rat { return big.NewRat(1, 2) }

func plus(x, y *big.Rat) *big.Rat { return new(big.Rat).Add(x, y) }

func times(x, y *big.Rat) *big.Rat { return new(big.Rat).Mul(x, y) }

func opposite(x *big.Rat) *big.Rat { return new(big.Rat).Neg(x) }

func upTo(x *big.Rat) bool {
	return len(x.Num().Bytes()) <= api.MaxWhole && len(x.Denom().Bytes()) <= api.MaxWhole
}

// twos is 2 to the power n.
func twos(n uint) *big.Int { return new(big.Int).Lsh(big.NewInt(1), n) }

// less is n less m.
func less(n *big.Int, m int64) *big.Int { return new(big.Int).Sub(n, big.NewInt(m)) }

// top is the greatest number of a fraction, 256 to the power 1024 less 1; past
// is the next one.
func top() *big.Int { return less(past(), 1) }

func past() *big.Int { return twos(8 * api.MaxWhole) }

// num is an exact complex number by math/big.
type num struct{ re, im *big.Rat }

func in(re, im int64) num { return num{big.NewRat(re, 1), big.NewRat(im, 1)} }

func real(x *big.Rat) num { return num{x, none()} }

func numOf(z api.Gauss) num { return num{ratOf(z.Re), ratOf(z.Im)} }

func (z num) gauss() api.Gauss { return api.Gauss{Re: fraction(z.re), Im: fraction(z.im)} }

func (z num) fits() bool { return upTo(z.re) && upTo(z.im) }

func (z num) zero() bool { return z.re.Sign() == 0 && z.im.Sign() == 0 }

func (z num) same(w num) bool { return z.re.Cmp(w.re) == 0 && z.im.Cmp(w.im) == 0 }

func (z num) plus(w num) num { return num{plus(z.re, w.re), plus(z.im, w.im)} }

func (z num) minus(w num) num { return z.plus(w.neg()) }

func (z num) neg() num { return num{opposite(z.re), opposite(z.im)} }

func (z num) conj() num { return num{z.re, opposite(z.im)} }

func (z num) times(w num) num {
	return num{plus(times(z.re, w.re), opposite(times(z.im, w.im))), plus(times(z.re, w.im), times(z.im, w.re))}
}

func (z num) over(w num) num {
	norm := new(big.Rat).Inv(w.times(w.conj()).re)
	return z.times(w.conj()).times(real(norm))
}

// spot is a point by math/big.
type spot struct {
	inf bool
	z   num
}

func far() spot { return spot{inf: true} }

func at(z num) spot { return spot{z: z} }

func spotOf(p api.Point) spot {
	if p.Inf {
		return far()
	}
	return at(numOf(p.Z))
}

func (p spot) point() api.Point {
	if p.inf {
		return api.Point{Inf: true}
	}
	return api.Point{Z: p.z.gauss()}
}

func (p spot) fits() bool { return p.inf || p.z.fits() }

// chart is a map by math/big, or four numbers that stand for one.
type chart struct {
	a, b, c, d num
	turns      bool
}

func charted(a, b, c, d int64) chart {
	return chart{a: in(a, 0), b: in(b, 0), c: in(c, 0), d: in(d, 0)}
}

func still() chart { return charted(1, 0, 0, 1) }

func slide(b num) chart { return chart{a: in(1, 0), b: b, c: in(0, 0), d: in(1, 0)} }

func stretch(a num) chart { return chart{a: a, b: in(0, 0), c: in(0, 0), d: in(1, 0)} }

func (m chart) turned() chart {
	m.turns = !m.turns
	return m
}

func (m chart) det() num { return m.a.times(m.d).minus(m.b.times(m.c)) }

// formed divides by c or d, as the chapter says.
func (m chart) formed() chart {
	by := m.c
	if by.zero() {
		by = m.d
	}
	return chart{m.a.over(by), m.b.over(by), m.c.over(by), m.d.over(by), m.turns}
}

func (m chart) mob() api.Mob {
	return api.Mob{A: m.a.gauss(), B: m.b.gauss(), C: m.c.gauss(), D: m.d.gauss(), Turns: m.turns}
}

func chartOf(m api.Mob) chart {
	return chart{numOf(m.A), numOf(m.B), numOf(m.C), numOf(m.D), m.Turns}
}

func (m chart) fits() bool { return m.a.fits() && m.b.fits() && m.c.fits() && m.d.fits() }

// at goes by the words of DOC.md.
func (m chart) at(p spot) spot {
	if p.inf {
		if m.c.zero() {
			return far()
		}
		return at(m.a.over(m.c))
	}
	w := p.z
	if m.turns {
		w = w.conj()
	}
	below := m.c.times(w).plus(m.d)
	if below.zero() {
		return far()
	}
	return at(m.a.times(w).plus(m.b).over(below))
}

func (m chart) conj() chart { return chart{m.a.conj(), m.b.conj(), m.c.conj(), m.d.conj(), m.turns} }

// behind multiplies the matrices.
func (m chart) behind(n chart) chart {
	turns := m.turns != n.turns
	if m.turns {
		n = n.conj()
	}
	return chart{
		m.a.times(n.a).plus(m.b.times(n.c)), m.a.times(n.b).plus(m.b.times(n.d)),
		m.c.times(n.a).plus(m.d.times(n.c)), m.c.times(n.b).plus(m.d.times(n.d)), turns,
	}.formed()
}

func (m chart) inverse() chart {
	n := chart{m.d, m.b.neg(), m.c.neg(), m.a, m.turns}
	if m.turns {
		n = n.conj()
	}
	return n.formed()
}

// wrongFracs are fractions that may not be.
func wrongFracs() []api.Frac {
	one := small(1)
	return []api.Frac{
		{},
		{Num: one},
		{Num: small(0), Den: small(2)},
		{Num: one, Den: small(-2)},
		{Num: small(6), Den: small(4)},
		{Num: whole(top()), Den: whole(top())},
		{Num: whole(past()), Den: one},
		{Num: whole(new(big.Int).Neg(past())), Den: one},
		{Num: one, Den: whole(past())},
		{Num: api.Whole{Neg: true}, Den: one},
		{Num: api.Whole{Mag: "\x00\x01"}, Den: one},
		{Num: one, Den: api.Whole{Mag: "\x00"}},
		{Num: api.Whole{Mag: strings.Repeat("\x7f", api.MaxWide+1)}, Den: one},
	}
}

// wrongNumbers are numbers that may not be, for one part or for both.
func wrongNumbers() []api.Gauss {
	var l []api.Gauss
	for _, x := range wrongFracs() {
		l = append(l, api.Gauss{Re: x, Im: over(0, 1)}, api.Gauss{Re: over(1, 1), Im: x}, api.Gauss{Re: x, Im: x})
	}
	return l
}

// wrongPoints are points that may not be: such numbers, and infinity beside any.
func wrongPoints() []api.Point {
	l := []api.Point{{Inf: true, Z: in(0, 0).gauss()}, {Inf: true, Z: in(1, 2).gauss()}, {Inf: true, Z: api.Gauss{Re: over(0, 1)}}}
	for _, z := range wrongNumbers() {
		l = append(l, api.Point{Z: z})
	}
	return l
}

// wrongMaps are maps that may not be: for a number, for their form, for being
// flat. Each stands turned, too.
func wrongMaps() []api.Mob {
	l := []api.Mob{{}}
	for _, z := range wrongNumbers() {
		for _, m := range []api.Mob{still().mob(), charted(0, 1, 1, 0).mob(), charted(3, 1, 1, 2).mob()} {
			a, b, c, d := m, m, m, m
			a.A, b.B, c.C, d.D = z, z, z, z
			l = append(l, a, b, c, d)
		}
	}
	long, halves := real(ofInt(top())), real(new(big.Rat).SetFrac(less(top(), 1), top()))
	for _, m := range []chart{
		charted(2, 0, 0, 2), charted(1, 0, 0, -1), charted(0, 2, 2, 4), charted(0, 1, -1, 0), charted(1, 0, 2, 1), // another form's
		{a: in(0, 1), b: in(0, 0), c: in(0, 0), d: in(0, 1)}, {a: in(1, 0), b: in(0, 0), c: in(0, 1), d: in(1, 0)}, {a: in(0, 0), b: in(1, 0), c: in(1, 1), d: in(0, 0)},
		charted(0, 0, 0, 0), charted(0, 0, 0, 1), charted(0, 5, 0, 1), charted(1, 1, 0, 0), charted(0, 0, 1, 0), charted(0, 0, 1, 7), charted(7, 0, 1, 0), charted(2, 6, 1, 3), // flat
		{a: in(1, 1), b: in(2, 0), c: in(1, 0), d: in(1, -1)}, {a: long, b: long, c: in(1, 0), d: in(1, 0)},
		{a: halves, b: in(1, 0), c: in(1, 0), d: in(1, 0).over(halves)},
	} {
		l = append(l, m.mob())
	}
	for _, m := range l {
		m.Turns = true
		l = append(l, m)
	}
	return l
}

// odd makes fractions of at most so many bytes above the line and below.
func odd(r *rand.Rand, most int) *big.Rat {
	b := make([]byte, 2*most)
	r.Read(b)
	above, below := new(big.Int).SetBytes(b[:r.Intn(most+1)]), new(big.Int).SetBytes(b[most:][:r.Intn(most+1)])
	if below.Sign() == 0 {
		below.SetInt64(1)
	}
	if r.Intn(2) == 0 {
		above.Neg(above)
	}
	return new(big.Rat).SetFrac(above, below)
}

func oddNum(r *rand.Rand, most int) num {
	switch z := (num{odd(r, most), odd(r, most)}); r.Intn(8) {
	case 0:
		return num{none(), z.im}
	case 1:
		return real(z.re)
	default:
		return z
	}
}

func oddSpot(r *rand.Rand, most int) spot {
	if r.Intn(10) == 0 {
		return far()
	}
	return at(oddNum(r, most))
}

// oddChart makes maps in their one form.
func oddChart(r *rand.Rand, most int) chart {
	for {
		m := chart{oddNum(r, most), oddNum(r, most), in(1, 0), oddNum(r, most), r.Intn(2) == 0}
		if r.Intn(4) == 0 {
			m.c, m.d = in(0, 0), in(1, 0)
		}
		if !m.det().zero() {
			return m
		}
	}
}

// full makes fractions whose numbers have just so many bytes, nearly always.
func full(r *rand.Rand, count int) *big.Rat {
	b := make([]byte, 2*count)
	r.Read(b)
	b[0], b[count] = b[0]|0x80, b[count]|0x80
	return new(big.Rat).SetFrac(new(big.Int).SetBytes(b[:count]), new(big.Int).SetBytes(b[count:]))
}

func fullNum(r *rand.Rand, count int) num { return num{full(r, count), full(r, count)} }

// shorts are numbers near 0.
func shorts() []num {
	return []num{in(0, 0), in(1, 0), in(-1, 0), in(0, 1), in(2, -1), {big.NewRat(1, 2), big.NewRat(3, 2)}}
}

// quads goes over all maps of four such numbers, turned and not, as they stand.
func quads(do func(m chart)) {
	for _, a := range shorts() {
		for _, b := range shorts() {
			for _, c := range shorts() {
				for _, d := range shorts() {
					do(chart{a, b, c, d, false})
					do(chart{a, b, c, d, true})
				}
			}
		}
	}
}

// maps are some in their one form: small ones of all kinds, some odd ones, some
// that are as long as may be.
func maps() []chart {
	r := rand.New(rand.NewSource(8))
	long := num{ofInt(top()), new(big.Rat).SetFrac(big.NewInt(-1), top())}
	l := []chart{
		still(), charted(0, 1, 1, 0), charted(1, 1, 0, 1), charted(2, 0, 0, 1), charted(0, -1, 1, 1), charted(3, 1, 1, 2),
		slide(in(1, -2)), stretch(in(0, 1)), stretch(in(1, 1)), {a: in(0, 1), b: in(2, 0), c: in(1, 0), d: in(1, 1)},
		slide(long), stretch(long), {a: long, b: long, c: in(1, 0), d: long},
	}
	for range 20 {
		l = append(l, oddChart(r, 6))
	}
	for _, m := range l {
		l = append(l, m.turned())
	}
	return l
}

// spots are some points: near 0, infinity, odd ones, ones as long as may be.
func spots() []spot {
	r := rand.New(rand.NewSource(80))
	l := []spot{far()}
	for _, z := range shorts() {
		l = append(l, at(z), at(z.neg()))
	}
	for range 6 {
		l = append(l, oddSpot(r, 6))
	}
	l = append(l, at(num{ofInt(top()), none()}), at(num{ofInt(less(top(), 1)), new(big.Rat).SetFrac(big.NewInt(1), top())}))
	return l
}

func want(t *testing.T, what string, got api.Mob, e api.Errno, wanted chart) {
	t.Helper()
	if got != wanted.mob() || e != api.OK {
		t.Fatalf("%s is %s, %v, want %s", what, brief(got), e, brief(wanted.mob()))
	}
}

func wantRefused(t *testing.T, what string, got api.Mob, e, wanted api.Errno) {
	t.Helper()
	if got != (api.Mob{}) || e != wanted {
		t.Fatalf("%s is %s, %v, want nothing and %v", what, brief(got), e, wanted)
	}
}

// wantChart wants the map, or that it is too big.
func wantChart(t *testing.T, what string, got api.Mob, e api.Errno, wanted chart) {
	t.Helper()
	if !wanted.fits() {
		wantRefused(t, what, got, e, api.ErrBig)
		return
	}
	want(t, what, got, e, wanted)
}

func wantPoint(t *testing.T, what string, got api.Point, e api.Errno, wanted spot) {
	t.Helper()
	switch {
	case wanted.fits() && (got != wanted.point() || e != api.OK):
		t.Fatalf("%s is %s, %v, want %s", what, briefPoint(got), e, briefPoint(wanted.point()))
	case !wanted.fits():
		wantNoPoint(t, what, got, e, api.ErrBig)
	}
}

func wantNoPoint(t *testing.T, what string, got api.Point, e, wanted api.Errno) {
	t.Helper()
	if got != (api.Point{}) || e != wanted {
		t.Fatalf("%s is %s, %v, want nothing and %v", what, briefPoint(got), e, wanted)
	}
}

func briefFrac(x api.Frac) string {
	s := bigOf(x.Num).String() + "/" + bigOf(x.Den).String()
	return s[:min(len(s), 30)]
}

func briefNum(z api.Gauss) string { return "(" + briefFrac(z.Re) + ", " + briefFrac(z.Im) + ")" }

func briefPoint(p api.Point) string {
	if p.Inf {
		return "infinity"
	}
	return briefNum(p.Z)
}

func brief(m api.Mob) string {
	s := "map "
	if m.Turns {
		s = "turn "
	}
	return s + briefNum(m.A) + briefNum(m.B) + briefNum(m.C) + briefNum(m.D)
}
