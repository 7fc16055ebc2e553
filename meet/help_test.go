package meet_test

import (
	"math/big"
	"math/rand"
	"strings"
	"testing"

	"tracery/api"
)

// whole, bigOf, fraction and ratOf go by the document's words and math/big, not
// by the packages that are tested.
func whole(n *big.Int) api.Whole { return api.Whole{Neg: n.Sign() < 0, Mag: string(n.Bytes())} }

func small(n int64) api.Whole { return whole(big.NewInt(n)) }

func bigOf(a api.Whole) *big.Int {
	n := new(big.Int).SetBytes([]byte(a.Mag))
	if a.Neg {
		n.Neg(n)
	}
	return n
}

func fraction(r *big.Rat) api.Frac { return api.Frac{Num: whole(r.Num()), Den: whole(r.Denom())} }

func over(num, den int64) api.Frac { return fraction(big.NewRat(num, den)) }

func ratOf(x api.Frac) *big.Rat { return new(big.Rat).SetFrac(bigOf(x.Num), bigOf(x.Den)) }

func ofInt(n *big.Int) *big.Rat { return new(big.Rat).SetInt(n) }

func under(n *big.Int) *big.Rat { return new(big.Rat).SetFrac(big.NewInt(1), n) }

func rat(num, den int64) *big.Rat { return big.NewRat(num, den) }

func none() *big.Rat { return new(big.Rat) }

func plus(x, y *big.Rat) *big.Rat { return new(big.Rat).Add(x, y) }

func minus(x, y *big.Rat) *big.Rat { return new(big.Rat).Sub(x, y) }

func times(x, y *big.Rat) *big.Rat { return new(big.Rat).Mul(x, y) }

func quo(x, y *big.Rat) *big.Rat { return new(big.Rat).Quo(x, y) }

func opposite(x *big.Rat) *big.Rat { return new(big.Rat).Neg(x) }

func upTo(x *big.Rat) bool {
	return len(x.Num().Bytes()) <= api.MaxWhole && len(x.Denom().Bytes()) <= api.MaxWhole
}

// rootOf answers the fraction whose square x is, if there is one.
func rootOf(x *big.Rat) (*big.Rat, bool) {
	if x.Sign() < 0 {
		return nil, false
	}
	r := new(big.Rat).SetFrac(new(big.Int).Sqrt(x.Num()), new(big.Int).Sqrt(x.Denom()))
	return r, times(r, r).Cmp(x) == 0
}

// twos is 2 to the power n.
func twos(n uint) *big.Int { return new(big.Int).Lsh(big.NewInt(1), n) }

func less(n *big.Int, by int64) *big.Int { return new(big.Int).Sub(n, big.NewInt(by)) }

// top is the greatest number of a fraction, 256 to the power 1024 less 1; past
// is the next one, root its square root.
func top() *big.Int { return less(past(), 1) }

func past() *big.Int { return twos(8 * api.MaxWhole) }

func root() *big.Int { return twos(4 * api.MaxWhole) }

// edge is the least number that twice is too long.
func edge() *big.Int { return twos(8*api.MaxWhole - 1) }

// num is an exact complex number by math/big.
type num struct{ re, im *big.Rat }

func in(re, im int64) num { return num{rat(re, 1), rat(im, 1)} }

func real(x *big.Rat) num { return num{x, none()} }

func numOf(z api.Gauss) num { return num{ratOf(z.Re), ratOf(z.Im)} }

func (z num) gauss() api.Gauss { return api.Gauss{Re: fraction(z.re), Im: fraction(z.im)} }

func (z num) fits() bool { return upTo(z.re) && upTo(z.im) }

func (z num) zero() bool { return z.re.Sign() == 0 && z.im.Sign() == 0 }

func (z num) plus(w num) num { return num{plus(z.re, w.re), plus(z.im, w.im)} }

func (z num) minus(w num) num { return num{minus(z.re, w.re), minus(z.im, w.im)} }

func (z num) conj() num { return num{z.re, opposite(z.im)} }

func (z num) scaled(by *big.Rat) num { return num{times(z.re, by), times(z.im, by)} }

func (z num) turned() num { return num{opposite(z.im), z.re} }

func (z num) dot(w num) *big.Rat { return plus(times(z.re, w.re), times(z.im, w.im)) }

func (z num) cross(w num) *big.Rat { return minus(times(z.re, w.im), times(z.im, w.re)) }

func (z num) norm() *big.Rat { return z.dot(z) }

func (z num) times(w num) num {
	return num{minus(times(z.re, w.re), times(z.im, w.im)), plus(times(z.re, w.im), times(z.im, w.re))}
}

func (z num) over(w num) num { return z.times(w.conj()).scaled(new(big.Rat).Inv(w.norm())) }

// cmp goes by the order of layer 4.
func (z num) cmp(w num) int {
	if n := z.re.Cmp(w.re); n != 0 {
		return n
	}
	return z.im.Cmp(w.im)
}

// spot is a point by math/big.
type spot struct {
	inf bool
	z   num
}

func far() spot { return spot{inf: true} }

func at(z num) spot { return spot{z: z} }

func on(re, im int64) spot { return at(in(re, im)) }

func (p spot) point() api.Point {
	if p.inf {
		return api.Point{Inf: true}
	}
	return api.Point{Z: p.z.gauss()}
}

func (p spot) fits() bool { return p.inf || p.z.fits() }

func pointsOf(l ...spot) []api.Point {
	var out []api.Point
	for _, p := range l {
		out = append(out, p.point())
	}
	return out
}

// ring is a circle by math/big, or three numbers that stand for one, or for none.
type ring struct {
	a *big.Rat
	b num
	c *big.Rat
}

func ringed(a, re, im, c int64) ring { return ring{rat(a, 1), in(re, im), rat(c, 1)} }

func unit() ring { return ringed(1, 0, 0, -1) }

// reals is the line Im z = 0, ups the line Re z = 0.
func reals() ring { return ringed(0, 0, 1, 0) }

func ups() ring { return ringed(0, 1, 0, 0) }

// about is the circle |z - centre|^2 = square.
func about(centre num, square *big.Rat) ring {
	return ring{rat(1, 1), centre.conj().scaled(rat(-1, 1)), minus(centre.norm(), square)}
}

// o is the circle about re + im i with a whole radius.
func o(re, im, radius int64) ring { return about(in(re, im), rat(radius*radius, 1)) }

// beside is the line Re z = x.
func beside(x *big.Rat) ring { return ring{none(), in(1, 0), opposite(plus(x, x))} }

// along is the line through two unlike points.
func along(p, q num) ring {
	normal := q.minus(p).turned()
	dot := normal.dot(p)
	return ring{none(), normal.conj(), opposite(plus(dot, dot))}.formed()
}

func ringOf(c api.Circle) ring { return ring{ratOf(c.A), numOf(c.B), ratOf(c.C)} }

func (k ring) circle() api.Circle {
	return api.Circle{A: fraction(k.a), B: k.b.gauss(), C: fraction(k.c)}
}

func (k ring) fits() bool { return upTo(k.a) && k.b.fits() && upTo(k.c) }

func (k ring) power() *big.Rat { return minus(k.b.norm(), times(k.a, k.c)) }

func (k ring) empty() bool { return k.power().Sign() <= 0 }

func (k ring) line() bool { return k.a.Sign() == 0 }

// same is for rings in their one form.
func (k ring) same(l ring) bool { return k.circle() == l.circle() }

func (k ring) times(by *big.Rat) ring {
	return ring{times(k.a, by), k.b.scaled(by), times(k.c, by)}
}

func (k ring) plus(l ring) ring { return ring{plus(k.a, l.a), k.b.plus(l.b), plus(k.c, l.c)} }

// formed divides as the chapter says.
func (k ring) formed() ring {
	by := k.a
	if by.Sign() == 0 {
		by = k.b.re
	}
	if by.Sign() == 0 {
		by = k.b.im
	}
	return k.times(new(big.Rat).Inv(by))
}

// centre and square are for circles that are no lines.
func (k ring) centre() num { return k.b.conj().scaled(opposite(new(big.Rat).Inv(k.a))) }

func (k ring) square() *big.Rat { return quo(k.power(), times(k.a, k.a)) }

func (k ring) value(z num) *big.Rat {
	bz := k.b.times(z).re
	return plus(plus(times(k.a, z.norm()), plus(bz, bz)), k.c)
}

func (k ring) holds(p spot) bool {
	if p.inf {
		return k.line()
	}
	return k.value(p.z).Sign() == 0
}

// product is the chapter's formula.
func (k ring) product(l ring) *big.Rat {
	crossed := plus(times(k.a, l.c), times(l.a, k.c))
	return minus(k.b.dot(l.b), times(crossed, rat(1, 2)))
}

// lies goes by distances and radii, not by the product: what is told is the
// sign of how much deeper they lie in each other than if they touched.
func (k ring) lies(l ring) api.Lying {
	if k.same(l) {
		return api.LiesSame
	}
	if k.line() {
		k, l = l, k
	}
	var depth int
	switch {
	case k.line(): // two lines
		if k.b.cross(l.b).Sign() != 0 {
			depth = 1
		}
	case l.line():
		value := l.value(k.centre()) // twice the distance, times the normal's length
		depth = times(k.square(), times(rat(4, 1), l.b.norm())).Cmp(times(value, value))
	default:
		// |r - s| against the distance against r + s.
		rest := minus(k.centre().minus(l.centre()).norm(), plus(k.square(), l.square()))
		depth = times(rat(4, 1), times(k.square(), l.square())).Cmp(times(rest, rest))
	}
	return [3]api.Lying{api.LiesApart, api.LiesTouching, api.LiesCrossing}[depth+1]
}

// upright goes by Pythagoras.
func (k ring) upright(l ring) bool {
	if k.line() {
		k, l = l, k
	}
	switch {
	case k.line():
		return k.b.dot(l.b).Sign() == 0
	case l.line():
		return l.holds(at(k.centre()))
	}
	return k.centre().minus(l.centre()).norm().Cmp(plus(k.square(), l.square())) == 0
}

// shared answers the points of Touching or Crossing circles, rising, if they
// are exact.
func (k ring) shared(l ring) ([]spot, bool) {
	if k.line() {
		k, l = l, k
	}
	if k.line() {
		det := k.b.cross(l.b)
		if det.Sign() == 0 {
			return []spot{far()}, true
		}
		// Re(b z) = -c / 2 of both, by Cramer.
		x := quo(minus(times(l.c, k.b.im), times(k.c, l.b.im)), plus(det, det))
		y := quo(minus(times(l.c, k.b.re), times(k.c, l.b.re)), plus(det, det))
		return []spot{at(num{x, y}), far()}, true
	}
	axis := l.plus(k.times(opposite(quo(l.a, k.a))))
	normal := axis.b.conj()
	value := axis.value(k.centre())
	foot := k.centre().minus(normal.scaled(quo(value, times(rat(2, 1), normal.norm()))))
	rest := minus(k.square(), foot.minus(k.centre()).norm())
	half, exact := rootOf(quo(rest, normal.norm()))
	switch {
	case !exact:
		return nil, false
	case half.Sign() == 0:
		return []spot{at(foot)}, true
	}
	p, q := foot.plus(normal.turned().scaled(half)), foot.minus(normal.turned().scaled(half))
	if p.cmp(q) > 0 {
		p, q = q, p
	}
	return []spot{at(p), at(q)}, true
}

// mix is the chapter's, not yet divided.
func mix(k, l ring, s, t *big.Rat) ring { return k.times(s).plus(l.times(t)) }

// turnedOver is the chapter's mix.
func turnedOver(k, l ring) ring {
	by := quo(times(rat(-2, 1), k.product(l)), k.power())
	return mix(l, k, rat(1, 1), by).formed()
}

// uprightOn finds by elimination what is upright on all, as far as it is one.
func uprightOn(l ...ring) (k ring, one bool) {
	var rows [][4]*big.Rat
	for _, m := range l {
		two := m.b.scaled(rat(2, 1))
		rows = append(rows, [4]*big.Rat{opposite(m.c), two.re, two.im, opposite(m.a)})
	}
	var led []int
	for col := 0; col < 4; col++ {
		found := -1
		for n := len(led); n < len(rows); n++ {
			if rows[n][col].Sign() != 0 {
				found = n
			}
		}
		if found < 0 {
			continue
		}
		at := len(led)
		rows[at], rows[found] = rows[found], rows[at]
		for n := range rows {
			if n == at || rows[n][col].Sign() == 0 {
				continue
			}
			by := quo(rows[n][col], rows[at][col])
			for m := range rows[n] {
				rows[n][m] = minus(rows[n][m], times(by, rows[at][m]))
			}
		}
		led = append(led, col)
	}
	if len(led) < 3 {
		return ring{}, false
	}
	free := 6 - led[0] - led[1] - led[2]
	parts := [4]*big.Rat{}
	parts[free] = rat(1, 1)
	for n, col := range led {
		parts[col] = opposite(quo(rows[n][free], rows[n][col]))
	}
	return ring{parts[0], num{parts[1], parts[2]}, parts[3]}, true
}

// wrongFracs are fractions that may not be.
func wrongFracs() []api.Frac {
	one := small(1)
	return []api.Frac{
		{},
		{Num: one},
		{Num: small(0), Den: small(2)},
		{Num: one, Den: small(-2)},
		{Num: small(6), Den: small(4)},
		{Num: whole(top()), Den: whole(top())},
		{Num: whole(past()), Den: one},
		{Num: whole(new(big.Int).Neg(past())), Den: one},
		{Num: one, Den: whole(past())},
		{Num: api.Whole{Neg: true}, Den: one},
		{Num: api.Whole{Mag: "\x00\x01"}, Den: one},
		{Num: one, Den: api.Whole{Mag: "\x00"}},
		{Num: api.Whole{Mag: strings.Repeat("\x7f", api.MaxWide+1)}, Den: one},
	}
}

// wrongCircles are circles that may not be: not in their one form, of no power,
// of wrong numbers.
func wrongCircles() []api.Circle {
	l := []api.Circle{{}}
	for _, k := range []ring{
		ringed(2, 0, 0, -2), ringed(-1, 0, 0, 1), ringed(0, 2, 0, 0), ringed(0, -1, 0, 0), ringed(0, 0, 2, 0), ringed(0, 0, -1, 0), ringed(0, -1, 1, 5),
		ringed(1, 0, 0, 1), ringed(1, 0, 0, 0), ringed(1, 1, 0, 1), ringed(1, 3, 4, 26), ringed(0, 0, 0, 0), ringed(0, 0, 0, 5), {rat(1, 2), in(1, 0), none()},
		{ofInt(top()), in(0, 0), rat(-1, 1)}, {rat(1, 1), in(0, 0), under(top())}, {none(), real(ofInt(top())), none()},
	} {
		l = append(l, k.circle())
	}
	for _, x := range wrongFracs() {
		a, flat, re, im, c, d := unit().circle(), reals().circle(), unit().circle(), ups().circle(), unit().circle(), reals().circle()
		a.A, flat.A, re.B.Re, im.B.Im, c.C, d.C = x, x, x, x, x, x
		l = append(l, a, flat, re, im, c, d)
	}
	return l
}

// odd makes fractions of at most so many bytes above the line and below.
func odd(r *rand.Rand, most int) *big.Rat {
	b := make([]byte, 2*most)
	r.Read(b)
	above, below := new(big.Int).SetBytes(b[:r.Intn(most+1)]), new(big.Int).SetBytes(b[most:][:r.Intn(most+1)])
	if below.Sign() == 0 {
		below.SetInt64(1)
	}
	if r.Intn(2) == 0 {
		above.Neg(above)
	}
	return new(big.Rat).SetFrac(above, below)
}

func oddNum(r *rand.Rand, most int) num {
	switch z := (num{odd(r, most), odd(r, most)}); r.Intn(8) {
	case 0:
		return num{none(), z.im}
	case 1:
		return real(z.re)
	default:
		return z
	}
}

// oddRing makes circles and lines in their one form.
func oddRing(r *rand.Rand, most int) ring {
	for {
		k := ring{rat(1, 1), oddNum(r, most), odd(r, most)}
		if r.Intn(4) == 0 {
			k.a = none()
		}
		if !k.empty() && k.formed().fits() {
			return k.formed()
		}
	}
}

// full makes fractions whose numbers have just so many bytes, nearly always.
func full(r *rand.Rand, count int) *big.Rat {
	b := make([]byte, 2*count)
	r.Read(b)
	b[0], b[count] = b[0]|0x80, b[count]|0x80
	return new(big.Rat).SetFrac(new(big.Int).SetBytes(b[:count]), new(big.Int).SetBytes(b[count:]))
}

func fullNum(r *rand.Rand, count int) num { return num{full(r, count), full(r, count)} }

// fullRing is a circle of such numbers; fullLine a line.
func fullRing(r *rand.Rand, count int) ring {
	return ring{rat(1, 1), fullNum(r, count), opposite(full(r, count))}
}

func fullLine(r *rand.Rand, count int) ring {
	return ring{none(), num{rat(1, 1), full(r, count)}, full(r, count)}
}

// grains are all circles and lines of small whole numbers, in their one form.
func grains() []ring {
	var l []ring
	for re := int64(-2); re <= 2; re++ {
		for im := int64(-1); im <= 1; im++ {
			for c := int64(-4); c <= 4; c++ {
				if k := ringed(1, re, im, c); !k.empty() {
					l = append(l, k)
				}
			}
		}
	}
	for im := int64(-1); im <= 2; im++ {
		for c := int64(-2); c <= 2; c++ {
			l = append(l, ringed(0, 1, im, c))
		}
	}
	return append(l, ringed(0, 0, 1, -2), reals(), ringed(0, 0, 1, 1))
}

// longs are circles and lines as long as may be.
func longs() []ring {
	r := rand.New(rand.NewSource(1300))
	most := real(ofInt(less(root(), 1)))
	l := []ring{
		fullRing(r, api.MaxWhole), fullLine(r, api.MaxWhole), fullRing(r, api.MaxWhole), fullLine(r, api.MaxWhole),
		{rat(1, 1), most, minus(most.norm(), rat(1, 1))}, {rat(1, 1), in(0, 0), opposite(ofInt(top()))}, {rat(1, 1), in(0, 0), opposite(under(top()))},
		{rat(1, 1), num{ofInt(top()), under(top())}, ofInt(top())}, {none(), num{rat(1, 1), ofInt(top())}, under(top())},
		{none(), num{rat(1, 1), opposite(under(top()))}, ofInt(top())}, {none(), in(1, 0), ofInt(top())}, {none(), in(1, 0), opposite(under(top()))},
	}
	return append(l, unit(), reals())
}

// pairs goes over two circles: all small ones, some odd ones, long ones.
func pairs(do func(k, l ring)) {
	for n, k := range grains() {
		for m, l := range grains() {
			if n == m || (n+m)%2 == 0 {
				do(k, l)
			}
		}
	}
	r := rand.New(rand.NewSource(1301))
	for range 200 {
		k, l := oddRing(r, 5), oddRing(r, 5)
		do(k, l)
		// Turned over the first one, the second one lies as it did.
		do(l, turnedOver(k, l))
	}
	for n, k := range longs() {
		for m, l := range longs() {
			if n == m || (n+m)%3 == 0 {
				do(k, l)
			}
		}
	}
}

// threes goes over three circles: small ones, mixes, the same ones twice, odd
// ones, long ones.
func threes(do func(k, l, m ring)) {
	r := rand.New(rand.NewSource(1302))
	some := grains()
	pick := func(l []ring) ring { return l[r.Intn(len(l))] }
	for range 3000 {
		do(pick(some), pick(some), pick(some))
	}
	for n := range 400 {
		k, l := pick(some), pick(some)
		if n%2 == 0 {
			k, l = oddRing(r, 6), oddRing(r, 6)
		}
		do(k, l, oddRing(r, 6))
		do(k, l, k)
		do(k, k, l)
		do(l, k, k)
		for range 5 {
			if m := mix(k, l, odd(r, 3), odd(r, 3)); !m.empty() && m.formed().fits() {
				do(k, l, m.formed())
				do(m.formed(), l, k)
				break
			}
		}
	}
	for range 60 {
		do(pick(longs()), pick(longs()), pick(longs()))
	}
}

// want wants the circle, or that it is too big.
func want(t *testing.T, what string, got api.Circle, e api.Errno, wanted ring) {
	t.Helper()
	if !wanted.fits() {
		wantNone(t, what, got, e, api.ErrBig)
		return
	}
	if got != wanted.circle() || e != api.OK {
		t.Fatalf("%s is %s, %v, want %s", what, brief(got), e, brief(wanted.circle()))
	}
}

// wantNone wants an error, and what is zero beside it.
func wantNone[T comparable](t *testing.T, what string, got T, e, wanted api.Errno) {
	t.Helper()
	var zero T
	if got != zero || e != wanted {
		t.Fatalf("%s: %v, want nothing and %v", what, e, wanted)
	}
}

// wantFrac wants the fraction, or that it is too big.
func wantFrac(t *testing.T, what string, got api.Frac, e api.Errno, wanted *big.Rat) {
	t.Helper()
	if !upTo(wanted) {
		wantNone(t, what, got, e, api.ErrBig)
		return
	}
	if got != fraction(wanted) || e != api.OK {
		t.Fatalf("%s is %s, %v, want %s", what, briefFrac(got), e, briefFrac(fraction(wanted)))
	}
}

// must is for calls that refuse nothing here.
func must[T any](t *testing.T) func(x T, e api.Errno) T {
	return func(x T, e api.Errno) T {
		t.Helper()
		if e != api.OK {
			t.Fatal(e)
		}
		return x
	}
}

// tally counts what was seen, so that a test can tell what it did not see.
type tally map[string]int

func (s tally) least(t *testing.T, count int, names ...string) {
	t.Helper()
	for _, name := range names {
		if s[name] < count {
			t.Errorf("%s: seen just %d times", name, s[name])
		}
	}
}

// fit counts what fits and what is too big.
func (s tally) fit(fits bool) {
	if fits {
		s["fits"]++
	} else {
		s["too big"]++
	}
}

func briefFrac(x api.Frac) string {
	s := bigOf(x.Num).String() + "/" + bigOf(x.Den).String()
	return s[:min(len(s), 30)]
}

func briefNum(z api.Gauss) string { return "(" + briefFrac(z.Re) + ", " + briefFrac(z.Im) + ")" }

func briefs(l ...api.Point) string {
	s := ""
	for _, p := range l {
		if p.Inf {
			s += " infinity"
		} else {
			s += " " + briefNum(p.Z)
		}
	}
	return s
}

func brief(c api.Circle) string {
	return "circle " + briefFrac(c.A) + briefNum(c.B) + briefFrac(c.C)
}

func briefRings(l ...ring) string {
	s := ""
	for _, k := range l {
		s += " " + brief(k.circle())
	}
	return s
}
