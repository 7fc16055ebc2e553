package circ_test

import (
	"math/big"
	"math/rand"
	"strings"
	"testing"

	"tracery/api"
)

// whole, bigOf, fraction and ratOf go by the document's words and math/big, not
// by the packages that are tested.
func whole(n *big.Int) api.Whole { return api.Whole{Neg: n.Sign() < 0, Mag: string(n.Bytes())} }

func small(n int64) api.Whole { return whole(big.NewInt(n)) }

func bigOf(a api.Whole) *big.Int {
	n := new(big.Int).SetBytes([]byte(a.Mag))
	if a.Neg {
		n.Neg(n)
	}
	return n
}

func fraction(r *big.Rat) api.Frac { return api.Frac{Num: whole(r.Num()), Den: whole(r.Denom())} }

func over(num, den int64) api.Frac { return fraction(big.NewRat(num, den)) }

func ratOf(x api.Frac) *big.Rat { return new(big.Rat).SetFrac(bigOf(x.Num), bigOf(x.Den)) }

func ofInt(n *big.Int) *big.Rat { return new(big.Rat).SetInt(n) }

func under(n *big.Int) *big.Rat { return new(big.Rat).SetFrac(big.NewInt(1), n) }

func rat(num, den int64) *big.Rat { return big.NewRat(num, den) }

func none() *big.Rat { return new(big.Rat) }

func plus(x, y *big.Rat) *big.Rat { return new(big.Rat).Add(x, y) }

func minus(x, y *big.Rat) *big.Rat { return new(big.Rat).Sub(x, y) }

func times(x, y *big.Rat) *big.Rat { return new(big.Rat).Mul(x, y) }

func quo(x, y *big.Rat) *big.Rat { return new(big.Rat).Quo(x, y) }

func opposite(x *big.Rat) *big.Rat { return new(big.Rat).Neg(x) }

func upTo(x *big.Rat) bool {
	return len(x.Num().Bytes()) <= api.MaxWhole && len(x.Denom().Bytes()) <= api.MaxWhole
}

// twos is 2 to the power n.
func twos(n uint) *big.Int { return new(big.Int).Lsh(big.NewInt(1), n) }

func less(n *big.Int, by int64) *big.Int { return new(big.Int).Sub(n, big.NewInt(by)) }

// top is the greatest number of a fraction, 256 to the power 1024 less 1; past
// is the next one, root its square root.
func top() *big.Int { return less(past(), 1) }

func past() *big.Int { return twos(8 * api.MaxWhole) }

func root() *big.Int { return twos(4 * api.MaxWhole) }

// edge is the least number that twice is too long.
func edge() *big.Int { return twos(8*api.MaxWhole - 1) }

// num is an exact complex number by math/big.
type num struct{ re, im *big.Rat }

func in(re, im int64) num { return num{rat(re, 1), rat(im, 1)} }

func real(x *big.Rat) num { return num{x, none()} }

func numOf(z api.Gauss) num { return num{ratOf(z.Re), ratOf(z.Im)} }

func (z num) gauss() api.Gauss { return api.Gauss{Re: fraction(z.re), Im: fraction(z.im)} }

func (z num) fits() bool { return upTo(z.re) && upTo(z.im) }

func (z num) zero() bool { return z.re.Sign() == 0 && z.im.Sign() == 0 }

func (z num) plus(w num) num { return num{plus(z.re, w.re), plus(z.im, w.im)} }

func (z num) minus(w num) num { return z.plus(w.neg()) }

func (z num) neg() num { return num{opposite(z.re), opposite(z.im)} }

func (z num) conj() num { return num{z.re, opposite(z.im)} }

func (z num) times(w num) num {
	return num{minus(times(z.re, w.re), times(z.im, w.im)), plus(times(z.re, w.im), times(z.im, w.re))}
}

func (z num) norm() *big.Rat { return plus(times(z.re, z.re), times(z.im, z.im)) }

func (z num) over(w num) num { return z.times(w.conj()).times(real(new(big.Rat).Inv(w.norm()))) }

// spot is a point by math/big.
type spot struct {
	inf bool
	z   num
}

func far() spot { return spot{inf: true} }

func at(z num) spot { return spot{z: z} }

func on(re, im int64) spot { return at(in(re, im)) }

func spotOf(p api.Point) spot {
	if p.Inf {
		return far()
	}
	return at(numOf(p.Z))
}

func (p spot) point() api.Point {
	if p.inf {
		return api.Point{Inf: true}
	}
	return api.Point{Z: p.z.gauss()}
}

func (p spot) fits() bool { return p.inf || p.z.fits() }

func (p spot) same(q spot) bool {
	if p.inf || q.inf {
		return p.inf == q.inf
	}
	return p.z.minus(q.z).zero()
}

func pointsOf(l ...spot) []api.Point {
	var out []api.Point
	for _, p := range l {
		out = append(out, p.point())
	}
	return out
}

// ring is a circle by math/big, or three numbers that stand for one, or for none.
type ring struct {
	a *big.Rat
	b num
	c *big.Rat
}

func ringed(a, re, im, c int64) ring { return ring{rat(a, 1), in(re, im), rat(c, 1)} }

func unit() ring { return ringed(1, 0, 0, -1) }

func reals() ring { return ringed(0, 0, 1, 0) }

func ringOf(c api.Circle) ring { return ring{ratOf(c.A), numOf(c.B), ratOf(c.C)} }

func (k ring) circle() api.Circle {
	return api.Circle{A: fraction(k.a), B: k.b.gauss(), C: fraction(k.c)}
}

func (k ring) fits() bool { return upTo(k.a) && k.b.fits() && upTo(k.c) }

func (k ring) power() *big.Rat { return minus(k.b.norm(), times(k.a, k.c)) }

func (k ring) empty() bool { return k.power().Sign() <= 0 }

func (k ring) line() bool { return k.a.Sign() == 0 }

func (k ring) times(by *big.Rat) ring {
	return ring{times(k.a, by), k.b.times(real(by)), times(k.c, by)}
}

// formed divides as the chapter says.
func (k ring) formed() ring {
	by := k.a
	if by.Sign() == 0 {
		by = k.b.re
	}
	if by.Sign() == 0 {
		by = k.b.im
	}
	return k.times(new(big.Rat).Inv(by))
}

// value is the chapter's formula.
func (k ring) value(z num) *big.Rat {
	bz := k.b.times(z).re
	return plus(plus(times(k.a, z.norm()), plus(bz, bz)), k.c)
}

func (k ring) side(p spot) int {
	if p.inf {
		return k.a.Sign()
	}
	return k.value(p.z).Sign()
}

// row tells what a point asks of the four numbers A, Re B, Im B, C.
func (p spot) row() [4]*big.Rat {
	if p.inf {
		return [4]*big.Rat{rat(1, 1), none(), none(), none()}
	}
	x, y := p.z.re, p.z.im
	return [4]*big.Rat{p.z.norm(), plus(x, x), opposite(plus(y, y)), rat(1, 1)}
}

// through solves the three rows of three unlike points, by their minors.
func through(p, q, r spot) ring {
	rows := [3][4]*big.Rat{p.row(), q.row(), r.row()}
	var minors [4]*big.Rat
	for skip := range minors {
		var cols []int
		for k := range 4 {
			if k != skip {
				cols = append(cols, k)
			}
		}
		sum := none()
		for k := range 3 {
			u, v, w := cols[k], cols[(k+1)%3], cols[(k+2)%3]
			cross := minus(times(rows[1][v], rows[2][w]), times(rows[1][w], rows[2][v]))
			sum = plus(sum, times(rows[0][u], cross))
		}
		if skip%2 == 1 {
			sum = opposite(sum)
		}
		minors[skip] = sum
	}
	return ring{minors[0], num{minors[1], minors[2]}, minors[3]}.formed()
}

// chart is a map by math/big, or four numbers that stand for one.
type chart struct {
	a, b, c, d num
	turns      bool
}

func charted(a, b, c, d int64) chart {
	return chart{a: in(a, 0), b: in(b, 0), c: in(c, 0), d: in(d, 0)}
}

func still() chart { return charted(1, 0, 0, 1) }

func inverting() chart { return charted(0, 1, 1, 0) }

func slide(b num) chart { return chart{a: in(1, 0), b: b, c: in(0, 0), d: in(1, 0)} }

func stretch(a num) chart { return chart{a: a, b: in(0, 0), c: in(0, 0), d: in(1, 0)} }

func (m chart) turned() chart {
	m.turns = !m.turns
	return m
}

func (m chart) det() num { return m.a.times(m.d).minus(m.b.times(m.c)) }

func (m chart) mob() api.Mob {
	return api.Mob{A: m.a.gauss(), B: m.b.gauss(), C: m.c.gauss(), D: m.d.gauss(), Turns: m.turns}
}

// at goes by the words of DOC.md.
func (m chart) at(p spot) spot {
	if p.inf {
		if m.c.zero() {
			return far()
		}
		return at(m.a.over(m.c))
	}
	w := p.z
	if m.turns {
		w = w.conj()
	}
	below := m.c.times(w).plus(m.d)
	if below.zero() {
		return far()
	}
	return at(m.a.times(w).plus(m.b).over(below))
}

// shape is the circle's form at what the way back makes of w, times the square
// of what that is over.
func (m chart) shape(k ring, w num) *big.Rat {
	above, below := m.d.times(w).minus(m.b), m.a.minus(m.c.times(w))
	if m.turns {
		above, below = above.conj(), below.conj()
	}
	mixed := k.b.times(above).times(below.conj()).re
	return plus(plus(times(k.a, above.norm()), plus(mixed, mixed)), times(k.c, below.norm()))
}

// image finds the numbers of the new form from its values at 0, 1, -1 and i.
func (m chart) image(k ring) ring {
	nought, right, left, up := m.shape(k, in(0, 0)), m.shape(k, in(1, 0)), m.shape(k, in(-1, 0)), m.shape(k, in(0, 1))
	a := minus(times(rat(1, 2), plus(right, left)), nought)
	re := times(rat(1, 4), minus(right, left))
	im := times(rat(1, 2), minus(plus(a, nought), up))
	return ring{a, num{re, im}, nought}.formed()
}

// wrongFracs are fractions that may not be.
func wrongFracs() []api.Frac {
	one := small(1)
	return []api.Frac{
		{},
		{Num: one},
		{Num: small(0), Den: small(2)},
		{Num: one, Den: small(-2)},
		{Num: small(6), Den: small(4)},
		{Num: whole(top()), Den: whole(top())},
		{Num: whole(past()), Den: one},
		{Num: whole(new(big.Int).Neg(past())), Den: one},
		{Num: one, Den: whole(past())},
		{Num: api.Whole{Neg: true}, Den: one},
		{Num: api.Whole{Mag: "\x00\x01"}, Den: one},
		{Num: one, Den: api.Whole{Mag: "\x00"}},
		{Num: api.Whole{Mag: strings.Repeat("\x7f", api.MaxWide+1)}, Den: one},
	}
}

// wrongNums are numbers that may not be, for one part or for both.
func wrongNums() []api.Gauss {
	var l []api.Gauss
	for _, x := range wrongFracs() {
		l = append(l, api.Gauss{Re: x, Im: over(0, 1)}, api.Gauss{Re: over(1, 1), Im: x}, api.Gauss{Re: x, Im: x})
	}
	return l
}

// wrongPoints are points that may not be, infinity beside any number among them.
func wrongPoints() []api.Point {
	l := []api.Point{{Inf: true, Z: in(0, 0).gauss()}, {Inf: true, Z: in(1, 2).gauss()}, {Inf: true, Z: api.Gauss{Re: over(0, 1)}}}
	for _, z := range wrongNums() {
		l = append(l, api.Point{Z: z})
	}
	return l
}

// wrongMaps are maps that may not be: for a number, for their form, flat ones.
func wrongMaps() []api.Mob {
	l := []api.Mob{
		{}, {Turns: true}, charted(2, 0, 0, 2).mob(), charted(0, 1, 2, 0).mob(), charted(1, 0, 0, -1).mob(), charted(0, 1, -1, 0).mob(),
		charted(0, 0, 0, 1).mob(), charted(2, 6, 1, 3).mob(), charted(2, 6, 1, 3).turned().mob(), charted(1, 0, 0, 0).mob(), charted(0, 0, 0, 0).mob(),
	}
	for _, z := range wrongNums() {
		a, b, c, d := still().mob(), inverting().mob(), inverting().mob(), still().mob()
		a.A, b.B, c.C, d.D = z, z, z, z
		l = append(l, a, b, c, d)
	}
	return l
}

// notInForm are rings that stand for circles, but not in their one form, or for
// none.
func notInForm() []ring {
	l := []ring{
		ringed(2, 0, 0, -2), ringed(-1, 0, 0, 1), ringed(-1, 0, 0, -1), ringed(2, 1, 1, 0), ringed(0, 2, 0, 0), ringed(0, -1, 0, 0), ringed(0, 0, 2, 0), ringed(0, 0, -1, 0), ringed(0, 2, 1, 0), ringed(0, -1, 1, 5), ringed(0, 0, 3, 1),
		ringed(1, 0, 0, 1), ringed(1, 0, 0, 0), ringed(1, 1, 0, 1), ringed(1, 1, 1, 2), ringed(1, 3, 4, 25), ringed(1, 3, 4, 26), ringed(0, 0, 0, 0), ringed(0, 0, 0, 5), ringed(0, 0, 0, -5), ringed(2, 0, 0, 0),
		{rat(1, 2), in(1, 0), none()}, {none(), num{rat(1, 2), none()}, none()}, {none(), num{none(), rat(1, 2)}, none()},
	}
	// At the bound: a power of 0, and just below it.
	long := real(ofInt(less(root(), 1)))
	l = append(l, ring{rat(1, 1), long, long.norm()}, ring{rat(1, 1), long, plus(long.norm(), rat(1, 1))}, ring{rat(1, 1), in(0, 0), under(top())})
	return append(l, ring{ofInt(top()), in(0, 0), rat(-1, 1)}, ring{none(), real(ofInt(top())), none()})
}

// wrongCircles are circles that may not be.
func wrongCircles() []api.Circle {
	l := []api.Circle{{}}
	for _, k := range notInForm() {
		l = append(l, k.circle())
	}
	for _, x := range wrongFracs() {
		a, flat, c, d := unit().circle(), reals().circle(), unit().circle(), reals().circle()
		a.A, flat.A, c.C, d.C = x, x, x, x
		l = append(l, a, flat, c, d)
	}
	for _, z := range wrongNums() {
		a, b := unit().circle(), reals().circle()
		a.B, b.B = z, z
		l = append(l, a, b)
	}
	return l
}

// odd makes fractions of at most so many bytes above the line and below.
func odd(r *rand.Rand, most int) *big.Rat {
	b := make([]byte, 2*most)
	r.Read(b)
	above, below := new(big.Int).SetBytes(b[:r.Intn(most+1)]), new(big.Int).SetBytes(b[most:][:r.Intn(most+1)])
	if below.Sign() == 0 {
		below.SetInt64(1)
	}
	if r.Intn(2) == 0 {
		above.Neg(above)
	}
	return new(big.Rat).SetFrac(above, below)
}

func oddNum(r *rand.Rand, most int) num {
	switch z := (num{odd(r, most), odd(r, most)}); r.Intn(8) {
	case 0:
		return num{none(), z.im}
	case 1:
		return real(z.re)
	default:
		return z
	}
}

func oddSpot(r *rand.Rand, most int) spot {
	if r.Intn(10) == 0 {
		return far()
	}
	return at(oddNum(r, most))
}

// oddChart makes maps in their one form.
func oddChart(r *rand.Rand, most int) chart {
	for {
		m := chart{oddNum(r, most), oddNum(r, most), in(1, 0), oddNum(r, most), r.Intn(2) == 0}
		if r.Intn(4) == 0 {
			m.c, m.d = in(0, 0), in(1, 0)
		}
		if !m.det().zero() {
			return m
		}
	}
}

// oddRing makes circles and lines in their one form.
func oddRing(r *rand.Rand, most int) ring {
	for {
		k := ring{rat(1, 1), oddNum(r, most), odd(r, most)}
		if r.Intn(4) == 0 {
			k.a = none()
		}
		if !k.empty() && k.formed().fits() {
			return k.formed()
		}
	}
}

// full makes fractions whose numbers have just so many bytes, nearly always.
func full(r *rand.Rand, count int) *big.Rat {
	b := make([]byte, 2*count)
	r.Read(b)
	b[0], b[count] = b[0]|0x80, b[count]|0x80
	return new(big.Rat).SetFrac(new(big.Int).SetBytes(b[:count]), new(big.Int).SetBytes(b[count:]))
}

func fullNum(r *rand.Rand, count int) num { return num{full(r, count), full(r, count)} }

// fullRing is a circle of such numbers; fullLine a line.
func fullRing(r *rand.Rand, count int) ring {
	return ring{rat(1, 1), fullNum(r, count), opposite(full(r, count))}
}

func fullLine(r *rand.Rand, count int) ring {
	return ring{none(), num{rat(1, 1), full(r, count)}, full(r, count)}
}

// onUnit is a point of the unit circle whose parts have about so many bytes.
func onUnit(r *rand.Rand, count int) num {
	t := num{full(r, count/4), rat(1, 1)}
	return t.over(t.conj())
}

// near0 are points near 0, and infinity.
func near0() []spot {
	return []spot{far(), on(0, 0), on(1, 0), on(-1, 0), on(0, 1), on(0, -1), on(1, 1), on(2, 0), at(num{rat(1, 2), rat(-3, 2)}), at(num{rat(3, 5), rat(4, 5)})}
}

// rings are circles and lines in their one form: small ones, through many of
// the points near 0 and through few, odd ones, ones as long as may be.
func rings() []ring {
	r := rand.New(rand.NewSource(11))
	l := []ring{
		unit(), reals(), ringed(0, 1, 0, 0), ringed(0, 1, 0, -2), ringed(0, 1, 1, 3), ringed(0, 1, -1, 0), ringed(0, 0, 1, -4),
		ringed(1, 0, 0, -3), ringed(1, 1, 2, 3), ringed(1, -1, 0, 0), ringed(1, 0, 5, -7), ringed(1, 2, -3, 12),
		{rat(1, 1), num{rat(-1, 2), none()}, none()}, {rat(1, 1), num{rat(1, 3), rat(2, 7)}, rat(-5, 9)}, {none(), num{rat(1, 1), rat(-3, 4)}, rat(7, 2)},
	}
	for range 25 {
		l = append(l, oddRing(r, 5))
	}
	for range 2 {
		l = append(l, fullRing(r, api.MaxWhole), fullLine(r, api.MaxWhole), oddRing(r, 400))
	}
	long := real(ofInt(less(root(), 1)))
	return append(l, ring{rat(1, 1), long, minus(long.norm(), rat(1, 1))}, ring{rat(1, 1), in(0, 0), opposite(ofInt(top()))}, ring{rat(1, 1), in(0, 0), opposite(under(top()))})
}

// charts are maps in their one form, turned and not, small ones and odd ones.
func charts() []chart {
	r := rand.New(rand.NewSource(8))
	l := []chart{
		still(), inverting(), charted(1, 1, 0, 1), charted(2, 0, 0, 1), charted(0, -1, 1, 1), charted(3, 1, 1, 2),
		slide(in(1, -2)), stretch(in(0, 1)), stretch(in(1, 1)), {a: in(0, 1), b: in(2, 0), c: in(1, 0), d: in(1, 1)},
	}
	for range 10 {
		l = append(l, oddChart(r, 4))
	}
	for _, m := range l {
		l = append(l, m.turned())
	}
	return l
}

// threes goes over all rows of three of the points near 0, alike and unlike
// ones, and over odd ones.
func threes(do func(p, q, r spot)) {
	for _, p := range near0() {
		for _, q := range near0() {
			for _, r := range near0() {
				do(p, q, r)
			}
		}
	}
	r := rand.New(rand.NewSource(12))
	for range 200 {
		l := [3]spot{oddSpot(r, 8), oddSpot(r, 8), oddSpot(r, 8)}
		do(l[0], l[1], l[2])
		l[r.Intn(3)] = l[r.Intn(3)]
		do(l[0], l[1], l[2])
	}
}

func twins(p, q, r spot) bool { return p.same(q) || p.same(r) || q.same(r) }

// want wants the circle, or that it is too big.
func want(t *testing.T, what string, got api.Circle, e api.Errno, wanted ring) {
	t.Helper()
	if !wanted.fits() {
		wantNone(t, what, got, e, api.ErrBig)
		return
	}
	if got != wanted.circle() || e != api.OK {
		t.Fatalf("%s is %s, %v, want %s", what, brief(got), e, brief(wanted.circle()))
	}
}

func wantNone(t *testing.T, what string, got api.Circle, e, wanted api.Errno) {
	t.Helper()
	if got != (api.Circle{}) || e != wanted {
		t.Fatalf("%s is %s, %v, want nothing and %v", what, brief(got), e, wanted)
	}
}

// wantFrac wants the fraction, or that it is too big.
func wantFrac(t *testing.T, what string, got api.Frac, e api.Errno, wanted *big.Rat) {
	t.Helper()
	if !upTo(wanted) {
		wantNoFrac(t, what, got, e, api.ErrBig)
		return
	}
	if got != fraction(wanted) || e != api.OK {
		t.Fatalf("%s is %s, %v, want %s", what, briefFrac(got), e, briefFrac(fraction(wanted)))
	}
}

func wantNoFrac(t *testing.T, what string, got api.Frac, e, wanted api.Errno) {
	t.Helper()
	if got != (api.Frac{}) || e != wanted {
		t.Fatalf("%s is %s, %v, want nothing and %v", what, briefFrac(got), e, wanted)
	}
}

// sides counts what fits and what is too big, so that both are seen.
type sides struct{ fit, big int }

func (s *sides) count(fits bool) {
	if fits {
		s.fit++
	} else {
		s.big++
	}
}

func (s *sides) both(t *testing.T) {
	t.Helper()
	if s.fit < 3 || s.big < 3 {
		t.Errorf("%d fit, %d are too big: too few on one side of the bound", s.fit, s.big)
	}
}

func briefFrac(x api.Frac) string {
	s := bigOf(x.Num).String() + "/" + bigOf(x.Den).String()
	return s[:min(len(s), 30)]
}

func briefNum(z api.Gauss) string { return "(" + briefFrac(z.Re) + ", " + briefFrac(z.Im) + ")" }

func briefPoint(p api.Point) string {
	if p.Inf {
		return "infinity"
	}
	return briefNum(p.Z)
}

func briefs(l ...api.Point) string {
	s := ""
	for _, p := range l {
		s += " " + briefPoint(p)
	}
	return s
}

func brief(c api.Circle) string {
	return "circle " + briefFrac(c.A) + briefNum(c.B) + briefFrac(c.C)
}

func briefMap(m api.Mob) string {
	s := "map "
	if m.Turns {
		s = "turn "
	}
	return s + briefNum(m.A) + briefNum(m.B) + briefNum(m.C) + briefNum(m.D)
}
