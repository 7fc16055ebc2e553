package packing_test

import (
	"math"
	"math/big"
	"math/rand"
	"strings"
	"testing"

	"tracery/api"
)

// wrongFracs are fractions that may not be.
func wrongFracs() []api.Frac {
	one := small(1)
	return []api.Frac{
		{},
		{Num: one},
		{Num: small(0), Den: small(2)},
		{Num: one, Den: small(-2)},
		{Num: small(6), Den: small(4)},
		{Num: whole(top()), Den: whole(top())},
		{Num: whole(past()), Den: one},
		{Num: one, Den: whole(past())},
		{Num: api.Whole{Neg: true}, Den: one},
		{Num: api.Whole{Mag: "\x00\x01"}, Den: one},
		{Num: one, Den: api.Whole{Mag: "\x00"}},
		{Num: api.Whole{Mag: strings.Repeat("\x7f", api.MaxWide+1)}, Den: one},
	}
}

// wrongDisks are disks that may not be: of which |Mid|^2 - Bend Co is not 1, and
// of wrong numbers.
func wrongDisks() []api.Disk {
	tiny := under(top())
	l := []api.Disk{{}}
	for _, x := range []ball{
		balled(0, 0, 0, 0), balled(1, 0, 0, 0), balled(1, 0, 0, 1), balled(-1, 0, 0, -1), balled(0, 0, 0, -1), balled(1, 1, 0, 1), balled(0, 2, 0, 0), balled(0, 1, 1, 0),
		balled(2, 0, 0, -2), balled(1, 2, 0, 0), {rat(1, 2), in(0, 0), rat(-1, 2)}, {rat(1, 1), in(0, 0), plus(rat(-1, 1), tiny)}, {ofInt(top()), in(1, 0), tiny},
	} {
		l = append(l, x.disk())
	}
	for _, x := range wrongFracs() {
		bend, re, im, co, flat := o().disk(), o().disk(), o().disk(), o().disk(), balled(0, 0, 1, 0).disk()
		bend.Bend, re.Mid.Re, im.Mid.Im, co.Co, flat.Bend = x, x, x, x, x
		l = append(l, bend, re, im, co, flat)
	}
	return l
}

// wrongFours are four of which one may not be, or two do not touch.
func wrongFours() [][4]api.Disk {
	l := [][4]api.Disk{{}}
	for n, d := range wrongDisks() {
		f := knot().disks()
		f[n%4] = d
		l = append(l, f)
	}
	half := balled(0, 1, 0, 0)
	for _, f := range []quad{
		{a(), a(), a(), a()}, {o(), o(), o(), o()}, {half, half, half, half}, {half, half.out(), half, half.out()}, {o(), o().out(), a(), a().out()},
		{o(), a(), b(), b()}, {a(), a(), b(), c()}, {a(), a().out(), b(), c()}, {o(), a(), b(), a().out()}, {balled(0, 0, 1, 0), balled(0, 0, -1, 0), balled(1, 0, 1, 0), balled(1, 2, 1, 4)},
		knot().with(0, o().out()), knot().with(3, c().out()), knot().out().with(2, b()), knot().with(3, about(in(9, 9), rat(1, 1))), knot().with(3, about(in(0, 0), rat(1, 3))),
		strip().with(1, strip()[0]), strip().with(3, balled(1, 4, 1, 16)), strip().with(0, balled(0, 1, 0, 0)), {longs()[0], longs()[2], longs()[3], longs()[5]},
		near(1), near(-1),
	} {
		l = append(l, f.disks())
	}
	return l
}

// near is the strip, but that two disks all but touch.
func near(by int64) quad {
	return strip().with(3, about(num{plus(rat(2, 1), times(rat(by, 1), under(twos(4000)))), rat(1, 1)}, rat(1, 1)))
}

func TestWrongFours(t *testing.T) { // what the tests below lean on
	for _, f := range []quad{near(1), near(-1), {longs()[0], longs()[2], longs()[3], longs()[5]}} {
		if !f.fits() || f.touch() {
			t.Error("they are to fit and not to touch")
		}
	}
}

// wrongCounts are below 0.
func wrongCounts() []int { return []int{-1, -2, -7, -1 << 32, math.MinInt, math.MinInt + 1} }

// greatCounts are more swaps than may be told.
func greatCounts() []int {
	return []int{7, 8, 39, 40, 41, 64, 1 << 31, 1 << 32, 1<<32 + 1, math.MaxInt - 1, math.MaxInt}
}

// grains are disks of small numbers, of all kinds.
func grains() []ball {
	var l []ball
	for _, along := range []num{in(1, 0), in(-1, 0), in(0, 1), in(0, -1), parts(3, 5, 4, 5)} {
		for co := int64(-3); co <= 3; co++ {
			l = append(l, ball{none(), along, rat(co, 2)})
		}
	}
	for bend := int64(-3); bend <= 3; bend++ {
		for re := int64(-2); re <= 2 && bend != 0; re++ {
			for im := int64(-1); im <= 2; im++ {
				l = append(l, about(parts(re, bend, im, bend), rat(1, bend)))
			}
		}
	}
	return append(l, o(), a(), b(), c())
}

// odd makes fractions of at most so many bytes above the line and below.
func odd(r *rand.Rand, most int) *big.Rat {
	b := make([]byte, 2*most)
	r.Read(b)
	above, below := new(big.Int).SetBytes(b[:r.Intn(most+1)]), new(big.Int).SetBytes(b[most:][:r.Intn(most+1)])
	if below.Sign() == 0 {
		below.SetInt64(1)
	}
	if r.Intn(2) == 0 {
		above.Neg(above)
	}
	return new(big.Rat).SetFrac(above, below)
}

func oddNum(r *rand.Rand, most int) num { return num{odd(r, most), odd(r, most)} }

// some makes such fractions that are not 0.
func some(r *rand.Rand, most int) *big.Rat {
	for {
		if x := odd(r, most); x.Sign() != 0 {
			return x
		}
	}
}

func someNum(r *rand.Rand, most int) num { return num{some(r, most), odd(r, most)} }

func oddBall(r *rand.Rand, most int) ball {
	if r.Intn(4) == 0 {
		return beyond(oddNum(r, most), someNum(r, most).pointing())
	}
	return about(oddNum(r, most), some(r, most))
}

// oddQuad makes four that touch each other.
func oddQuad(r *rand.Rand, most int) quad {
	f := []quad{knot(), strip(), knot().out(), ford(big.NewInt(r.Int63n(9) + 1))}[r.Intn(4)]
	f[0], f[1], f[2], f[3] = f[2], f[3], f[0], f[1]
	for range r.Intn(6) {
		f = f.changed(r.Intn(4))
	}
	if r.Intn(3) > 0 {
		f = f.slid(oddNum(r, most)).stretched(someNum(r, most).pointing().scaled(some(r, most)))
	}
	if r.Intn(3) == 0 {
		f = f.each(ball.flipped).slid(oddNum(r, 1))
	}
	i, j := r.Intn(4), r.Intn(4)
	f[i], f[j] = f[j], f[i]
	return f
}

// ford is chapter 23's: the lower half plane, and the disks over 0, 1 / n and
// 1 / (n + 1).
func ford(n *big.Int) quad {
	over := func(q *big.Int) ball {
		x := ofInt(q)
		return ball{double(square(x)), num{double(x), rat(1, 1)}, rat(2, 1)}
	}
	return quad{balled(0, 0, -1, 0), balled(2, 0, 1, 0), over(n), over(more(n, 1))}
}

// quads goes over four that touch each other.
func quads(t *testing.T, seed int64, count int, do func(f quad)) {
	t.Helper()
	r := rand.New(rand.NewSource(seed))
	l := []quad{knot(), strip(), knot().out(), strip().out(), ford(big.NewInt(1)), ford(big.NewInt(7)), knot().row(9), {strip()[2], strip()[0], strip()[3], strip()[1]}}
	for n := range count {
		if f := oddQuad(r, 1+n%8); f.fits() {
			l = append(l, f)
		}
	}
	for _, f := range l {
		if !f.touch() {
			t.Fatal("the four do not touch each other")
		}
		do(f)
	}
}

// full makes whole numbers of just so many bytes, none of which a small number
// divides for sure.
func full(r *rand.Rand, count int) *big.Int {
	b := make([]byte, count)
	r.Read(b)
	b[0], b[count-1] = b[0]|0x80, b[count-1]|1
	return new(big.Int).SetBytes(b)
}

func fullRat(r *rand.Rand, count int) *big.Rat {
	return new(big.Rat).SetFrac(full(r, count), full(r, count))
}

// fullUnit is a number of the magnitude 1 whose parts have about twice as many
// bytes.
func fullUnit(r *rand.Rand, count int) num {
	return num{ofInt(full(r, count)), ofInt(full(r, count))}.pointing()
}

// longs are disks as long as may be.
func longs() []ball {
	r := rand.New(rand.NewSource(2100))
	unit, count := fullUnit(r, api.MaxWhole/2-1), api.MaxWhole
	return []ball{
		{none(), unit, fullRat(r, count)}, {none(), unit.neg(), opposite(fullRat(r, count))}, {none(), fullUnit(r, count/2-1), fullRat(r, count)},
		{fullRat(r, count), fullUnit(r, count/2-1), none()}, {opposite(fullRat(r, count)), unit, none()},
		about(in(0, 0), fullRat(r, count)), about(in(0, 0), opposite(fullRat(r, count))),
		about(flat(ofInt(root())), rat(1, 1)), about(flat(ofInt(root())), rat(-1, 1)), about(num{none(), under(more(root(), -1))}, rat(1, 1)),
		{under(top()), in(1, 0), none()}, {none(), in(0, 1), under(top())}, {none(), in(0, -1), ofInt(top())},
	}
}

// longQuads are four that touch each other, of long numbers, and none of which
// gets too big by few swaps.
func longQuads() []quad {
	r := rand.New(rand.NewSource(2101))
	return []quad{
		knot().stretched(flat(fullRat(r, 1000))), strip().stretched(flat(fullRat(r, 1000))).out(),
		knot().slid(flat(ofInt(full(r, 500)))), strip().slid(flat(fullRat(r, 240))), knot().stretched(fullUnit(r, 490)), knot().slid(num{fullRat(r, 100), fullRat(r, 100)}).stretched(fullUnit(r, 70)),
	}
}

// scaled answers four all of whose Bends are so many times as great, and Cos so
// many times less.
func (f quad) scaled(by *big.Int) quad { return f.stretched(flat(under(by))) }
