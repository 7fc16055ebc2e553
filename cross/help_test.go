package cross_test

import (
	"math/big"
	"math/rand"
	"strings"
	"testing"

	"tracery/api"
)

// whole, bigOf, fraction and ratOf go by the document's words and math/big, not
// by the packages that are tested.
func whole(n *big.Int) api.Whole { return api.Whole{Neg: n.Sign() < 0, Mag: string(n.Bytes())} }

func small(n int64) api.Whole { return whole(big.NewInt(n)) }

func bigOf(a api.Whole) *big.Int {
	n := new(big.Int).SetBytes([]byte(a.Mag))
	if a.Neg {
		n.Neg(n)
	}
	return n
}

func fraction(r *big.Rat) api.Frac { return api.Frac{Num: whole(r.Num()), Den: whole(r.Denom())} }

func over(num, den int64) api.Frac { return fraction(big.NewRat(num, den)) }

func ratOf(x api.Frac) *big.Rat { return new(big.Rat).SetFrac(bigOf(x.Num), bigOf(x.Den)) }

func ofInt(n *big.Int) *big.Rat { return new(big.Rat).SetInt(n) }

func under(n *big.Int) *big.Rat { return new(big.Rat).SetFrac(big.NewInt(1), n) }

func none() *big.Rat { return new(big.Rat) }

func plus(x, y *big.Rat) *big.Rat { return new(big.Rat).Add(x, y) }

func times(x, y *big.Rat) *big.Rat { return new(big.Rat).Mul(x, y) }

func opposite(x *big.Rat) *big.Rat { return new(big.Rat).Neg(x) }

func upTo(x *big.Rat) bool {
	return len(x.Num().Bytes()) <= api.MaxWhole && len(x.Denom().Bytes()) <= api.MaxWhole
}

// twos is 2 to the power n.
func twos(n uint) *big.Int { return new(big.Int).Lsh(big.NewInt(1), n) }

// top is the greatest number of a fraction, 256 to the power 1024 less 1; past
// is the next one.
func top() *big.Int { return new(big.Int).Sub(past(), big.NewInt(1)) }

func past() *big.Int { return twos(8 * api.MaxWhole) }

// edge is the least number that twice is too long.
func edge() *big.Int { return twos(8*api.MaxWhole - 1) }

// num is an exact complex number by math/big.
type num struct{ re, im *big.Rat }

func in(re, im int64) num { return num{big.NewRat(re, 1), big.NewRat(im, 1)} }

func real(x *big.Rat) num { return num{x, none()} }

func numOf(z api.Gauss) num { return num{ratOf(z.Re), ratOf(z.Im)} }

func (z num) gauss() api.Gauss { return api.Gauss{Re: fraction(z.re), Im: fraction(z.im)} }

func (z num) fits() bool { return upTo(z.re) && upTo(z.im) }

func (z num) zero() bool { return z.re.Sign() == 0 && z.im.Sign() == 0 }

func (z num) plus(w num) num { return num{plus(z.re, w.re), plus(z.im, w.im)} }

func (z num) minus(w num) num { return z.plus(w.neg()) }

func (z num) neg() num { return num{opposite(z.re), opposite(z.im)} }

func (z num) conj() num { return num{z.re, opposite(z.im)} }

func (z num) times(w num) num {
	return num{plus(times(z.re, w.re), opposite(times(z.im, w.im))), plus(times(z.re, w.im), times(z.im, w.re))}
}

func (z num) norm() *big.Rat { return z.times(z.conj()).re }

func (z num) over(w num) num { return z.times(w.conj()).times(real(new(big.Rat).Inv(w.norm()))) }

// spot is a point by math/big.
type spot struct {
	inf bool
	z   num
}

func far() spot { return spot{inf: true} }

func at(z num) spot { return spot{z: z} }

func on(re, im int64) spot { return at(in(re, im)) }

func spotOf(p api.Point) spot {
	if p.Inf {
		return far()
	}
	return at(numOf(p.Z))
}

func (p spot) point() api.Point {
	if p.inf {
		return api.Point{Inf: true}
	}
	return api.Point{Z: p.z.gauss()}
}

func (p spot) fits() bool { return p.inf || p.z.fits() }

func (p spot) conj() spot {
	if p.inf {
		return p
	}
	return at(p.z.conj())
}

func (p spot) same(q spot) bool {
	if p.inf || q.inf {
		return p.inf == q.inf
	}
	return p.z.minus(q.z).zero()
}

// ahead tells layer 7's order.
func (p spot) ahead(q spot) bool {
	switch {
	case p.inf || q.inf:
		return !p.inf
	case p.z.re.Cmp(q.z.re) != 0:
		return p.z.re.Cmp(q.z.re) < 0
	}
	return p.z.im.Cmp(q.z.im) < 0
}

// four is a row of four points.
type four [4]spot

func (l four) points() [4]api.Point {
	return [4]api.Point{l[0].point(), l[1].point(), l[2].point(), l[3].point()}
}

func (l four) fits() bool { return l[0].fits() && l[1].fits() && l[2].fits() && l[3].fits() }

// same tells which of the six twos are the same: those of the places 0 and 1,
// 2 and 3, 1 and 2, 3 and 0, 0 and 2, 1 and 3.
func (l four) same() [6]bool {
	a, b, c, d := l[0], l[1], l[2], l[3]
	return [6]bool{a.same(b), c.same(d), b.same(c), d.same(a), a.same(c), b.same(d)}
}

// threeSame: twos that are the same and have a point in common.
func (l four) threeSame() bool {
	s := l.same()
	return (s[0] || s[1]) && (s[2] || s[3]) || (s[0] || s[1]) && (s[4] || s[5]) || (s[2] || s[3]) && (s[4] || s[5])
}

func (l four) unlike() bool { return l.same() == [6]bool{} }

// ratio is DOC.md's formula, and its limits; it wants no three that are the same.
func (l four) ratio() spot {
	a, b, c, d := l[0].z, l[1].z, l[2].z, l[3].z
	switch s := l.same(); {
	case s[0] || s[1]:
		return on(0, 0)
	case s[2] || s[3]:
		return far()
	case s[4] || s[5]:
		return on(1, 0)
	case l[0].inf:
		return at(d.minus(c).over(b.minus(c)))
	case l[1].inf:
		return at(d.minus(c).over(d.minus(a)))
	case l[2].inf:
		return at(b.minus(a).over(d.minus(a)))
	case l[3].inf:
		return at(b.minus(a).over(b.minus(c)))
	}
	return at(a.minus(b).times(c.minus(d)).over(b.minus(c).times(d.minus(a))))
}

// round tells whether there is a form of |z|^2, x, y and 1 that is 0 at all four.
func (l four) round() bool {
	var m [4][4]*big.Rat
	for k, p := range l {
		m[k] = [4]*big.Rat{big.NewRat(1, 1), none(), none(), none()}
		if !p.inf {
			m[k] = [4]*big.Rat{p.z.norm(), p.z.re, p.z.im, big.NewRat(1, 1)}
		}
	}
	sum := none()
	for _, order := range permutations() {
		product := big.NewRat(1, 1)
		for k, j := range order {
			product = times(product, m[k][j])
			for _, i := range order[:k] {
				if i > j {
					product = opposite(product)
				}
			}
		}
		sum = plus(sum, product)
	}
	return sum.Sign() == 0
}

// permutations are the 24 orders of four places.
func permutations() [][4]int {
	var l [][4]int
	for n := range 256 {
		order := [4]int{n / 64, n / 16 % 4, n / 4 % 4, n % 4}
		var seen [4]bool
		for _, k := range order {
			seen[k] = true
		}
		if seen == [4]bool{true, true, true, true} {
			l = append(l, order)
		}
	}
	return l
}

func (l four) ordered(order [4]int) four {
	return four{l[order[0]], l[order[1]], l[order[2]], l[order[3]]}
}

// chart is a map by math/big, or four numbers that stand for one.
type chart struct {
	a, b, c, d num
	turns      bool
}

func (m chart) det() num { return m.a.times(m.d).minus(m.b.times(m.c)) }

// formed divides by c or d, as layer 8 says.
func (m chart) formed() chart {
	by := m.c
	if by.zero() {
		by = m.d
	}
	return chart{m.a.over(by), m.b.over(by), m.c.over(by), m.d.over(by), m.turns}
}

func (m chart) mob() api.Mob {
	return api.Mob{A: m.a.gauss(), B: m.b.gauss(), C: m.c.gauss(), D: m.d.gauss(), Turns: m.turns}
}

func (m chart) fits() bool { return m.a.fits() && m.b.fits() && m.c.fits() && m.d.fits() }

// at goes by the words of DOC.md.
func (m chart) at(p spot) spot {
	if p.inf {
		if m.c.zero() {
			return far()
		}
		return at(m.a.over(m.c))
	}
	w := p.z
	if m.turns {
		w = w.conj()
	}
	below := m.c.times(w).plus(m.d)
	if below.zero() {
		return far()
	}
	return at(m.a.times(w).plus(m.b).over(below))
}

func (m chart) images(l four) four { return four{m.at(l[0]), m.at(l[1]), m.at(l[2]), m.at(l[3])} }

// inverse is for maps that do not turn.
func (m chart) inverse() chart { return chart{a: m.d, b: m.b.neg(), c: m.c.neg(), d: m.a} }

// charted is the map from d to the ratio of three unlike points and d: DOC.md's
// formula and its limits, set out by d.
func charted(l [3]spot) chart {
	a, b, c := l[0].z, l[1].z, l[2].z
	one, zero := in(1, 0), in(0, 0)
	switch {
	case l[0].inf:
		return chart{a: one, b: c.neg(), c: zero, d: b.minus(c)}
	case l[1].inf:
		return chart{a: one, b: c.neg(), c: one, d: a.neg()}
	case l[2].inf:
		return chart{a: zero, b: b.minus(a), c: one, d: a.neg()}
	}
	s, t := a.minus(b), b.minus(c)
	return chart{a: s.neg(), b: s.times(c), c: t, d: t.times(a).neg()}
}

// fourth is for three unlike points.
func fourth(l [3]spot, ratio spot) spot { return charted(l).inverse().at(ratio) }

func twins(l [3]spot) bool { return l[0].same(l[1]) || l[0].same(l[2]) || l[1].same(l[2]) }

// wrongFracs are fractions that may not be.
func wrongFracs() []api.Frac {
	one := small(1)
	return []api.Frac{
		{},
		{Num: one},
		{Num: small(0), Den: small(2)},
		{Num: one, Den: small(-2)},
		{Num: small(6), Den: small(4)},
		{Num: whole(top()), Den: whole(top())},
		{Num: whole(past()), Den: one},
		{Num: whole(new(big.Int).Neg(past())), Den: one},
		{Num: one, Den: whole(past())},
		{Num: api.Whole{Neg: true}, Den: one},
		{Num: api.Whole{Mag: "\x00\x01"}, Den: one},
		{Num: one, Den: api.Whole{Mag: "\x00"}},
		{Num: api.Whole{Mag: strings.Repeat("\x7f", api.MaxWide+1)}, Den: one},
	}
}

// wrong are points that may not be, for one part, for both, and infinity beside
// any number.
func wrong() []api.Point {
	l := []api.Point{{Inf: true, Z: in(0, 0).gauss()}, {Inf: true, Z: in(1, 2).gauss()}, {Inf: true, Z: api.Gauss{Re: over(0, 1)}}}
	for _, x := range wrongFracs() {
		for _, z := range []api.Gauss{{Re: x, Im: over(0, 1)}, {Re: over(1, 1), Im: x}, {Re: x, Im: x}} {
			l = append(l, api.Point{Z: z})
		}
	}
	return l
}

// withWrong goes over rows of which one point or more may not be, at each place:
// beside unlike points, infinity among them, and beside some that are the same.
func withWrong(do func(l [4]api.Point)) {
	long := at(real(ofInt(top())))
	for _, p := range wrong() {
		for _, l := range []four{
			{on(0, 0), on(1, 0), on(2, 1), on(3, 0)}, {far(), on(0, 0), far(), on(1, 1)},
			{on(1, 0), on(1, 0), on(1, 0), on(1, 0)}, {far(), far(), far(), far()}, {long, long, long, long},
		} {
			for k := range l {
				row := l.points()
				row[k] = p
				do(row)
				row[(k+1)%4] = p
				do(row)
			}
		}
		do([4]api.Point{p, p, p, p})
	}
}

// odd makes fractions of at most so many bytes above the line and below.
func odd(r *rand.Rand, most int) *big.Rat {
	b := make([]byte, 2*most)
	r.Read(b)
	above, below := new(big.Int).SetBytes(b[:r.Intn(most+1)]), new(big.Int).SetBytes(b[most:][:r.Intn(most+1)])
	if below.Sign() == 0 {
		below.SetInt64(1)
	}
	if r.Intn(2) == 0 {
		above.Neg(above)
	}
	return new(big.Rat).SetFrac(above, below)
}

func oddNum(r *rand.Rand, most int) num {
	switch z := (num{odd(r, most), odd(r, most)}); r.Intn(8) {
	case 0:
		return num{none(), z.im}
	case 1:
		return real(z.re)
	default:
		return z
	}
}

func oddSpot(r *rand.Rand, most int) spot {
	if r.Intn(10) == 0 {
		return far()
	}
	return at(oddNum(r, most))
}

func oddFour(r *rand.Rand, most int) four {
	return four{oddSpot(r, most), oddSpot(r, most), oddSpot(r, most), oddSpot(r, most)}
}

// oddChart makes maps in their one form.
func oddChart(r *rand.Rand, most int) chart {
	for {
		m := chart{oddNum(r, most), oddNum(r, most), in(1, 0), oddNum(r, most), r.Intn(2) == 0}
		if r.Intn(4) == 0 {
			m.c, m.d = in(0, 0), in(1, 0)
		}
		if !m.det().zero() {
			return m
		}
	}
}

// full makes fractions whose numbers have just so many bytes, nearly always.
func full(r *rand.Rand, count int) *big.Rat {
	b := make([]byte, 2*count)
	r.Read(b)
	b[0], b[count] = b[0]|0x80, b[count]|0x80
	return new(big.Rat).SetFrac(new(big.Int).SetBytes(b[:count]), new(big.Int).SetBytes(b[count:]))
}

func fullNum(r *rand.Rand, count int) num { return num{full(r, count), full(r, count)} }

// fullFour are four points of such parts; fullReals are on the real line.
func fullFour(r *rand.Rand, count int) four {
	return four{at(fullNum(r, count)), at(fullNum(r, count)), at(fullNum(r, count)), at(fullNum(r, count))}
}

func fullReals(r *rand.Rand, count int) four {
	return four{at(real(full(r, count))), at(real(full(r, count))), at(real(full(r, count))), at(real(full(r, count)))}
}

// near0 are points near 0, and infinity.
func near0() []spot {
	return []spot{far(), on(0, 0), on(1, 0), on(-1, 0), on(0, 1), on(1, 1), on(2, 0), at(num{big.NewRat(1, 2), big.NewRat(-3, 2)})}
}

// rows goes over all rows of four such points, alike and unlike ones, and over
// odd ones.
func rows(do func(l four)) {
	pool := near0()
	for n := range len(pool) * len(pool) * len(pool) * len(pool) {
		var l four
		for k := range l {
			l[k] = pool[n%len(pool)]
			n /= len(pool)
		}
		do(l)
	}
	r := rand.New(rand.NewSource(10))
	for range 300 {
		l := oddFour(r, 12)
		do(l)
		l[r.Intn(4)] = l[r.Intn(4)]
		do(l)
	}
}

// brink goes over rows whose ratio has about as many bytes as may be.
func brink(do func(l four)) {
	r := rand.New(rand.NewSource(11))
	for k := range 48 {
		do(fullReals(r, 244+k/2))
		do(fullFour(r, 58+k/4))
		l := fullReals(r, 330+k/2)
		l[r.Intn(4)] = far()
		do(l)
	}
}

func wantPoint(t *testing.T, what string, got api.Point, e api.Errno, wanted spot) {
	t.Helper()
	switch {
	case wanted.fits() && (got != wanted.point() || e != api.OK):
		t.Fatalf("%s is %s, %v, want %s", what, brief(got), e, brief(wanted.point()))
	case !wanted.fits():
		wantNone(t, what, got, e, api.ErrBig)
	}
}

func wantNone(t *testing.T, what string, got api.Point, e, wanted api.Errno) {
	t.Helper()
	if got != (api.Point{}) || e != wanted {
		t.Fatalf("%s is %s, %v, want nothing and %v", what, brief(got), e, wanted)
	}
}

func briefFrac(x api.Frac) string {
	s := bigOf(x.Num).String() + "/" + bigOf(x.Den).String()
	return s[:min(len(s), 30)]
}

func brief(p api.Point) string {
	if p.Inf {
		return "infinity"
	}
	return "(" + briefFrac(p.Z.Re) + ", " + briefFrac(p.Z.Im) + ")"
}

func briefs(l ...api.Point) string {
	s := ""
	for _, p := range l {
		s += " " + brief(p)
	}
	return s
}
