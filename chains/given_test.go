package chains_test

import (
	"math"
	"math/big"
	"math/rand"
	"strings"
	"testing"

	"tracery/api"
)

// wrongFracs are fractions that may not be.
func wrongFracs() []api.Frac {
	one := small(1)
	return []api.Frac{
		{},
		{Num: one},
		{Den: one, Num: api.Whole{Neg: true}},
		{Num: small(0), Den: small(2)},
		{Num: one, Den: small(-2)},
		{Num: small(6), Den: small(4)},
		{Num: small(2), Den: small(4)},
		{Num: whole(top()), Den: whole(top())},
		{Num: whole(past()), Den: one},
		{Num: one, Den: whole(past())},
		{Num: api.Whole{Mag: "\x00\x01"}, Den: one},
		{Num: one, Den: api.Whole{Mag: "\x00\x02"}},
		{Num: one, Den: api.Whole{Mag: "\x00"}},
		{Num: api.Whole{Mag: strings.Repeat("\x7f", api.MaxWide+1)}, Den: one},
	}
}

func wrongNums() []api.Gauss {
	var l []api.Gauss
	for _, x := range wrongFracs() {
		l = append(l, api.Gauss{Re: x, Im: over(1, 1)}, api.Gauss{Re: over(0, 1), Im: x})
	}
	return l
}

// wrongMaps are maps that may not be: flat, not in their one form, of wrong
// numbers.
func wrongMaps() []api.Mob {
	l := []api.Mob{{}}
	for _, m := range []chart{
		stretch(in(0, 0)), round(in(1, 0), in(2, 0), in(0, 0)),
		{a: in(2, 0), b: in(0, 0), c: in(0, 0), d: in(2, 0)},
		{a: in(0, 0), b: in(1, 0), c: in(2, 0), d: in(0, 0)},
		{a: in(0, 0), b: in(1, 0), c: in(-1, 0), d: in(0, 0)},
	} {
		l = append(l, m.mob(), m.turned().mob())
	}
	for _, z := range wrongNums() {
		a, b, c, d := still().mob(), still().mob(), flip().mob(), flip().mob()
		a.A, b.B, c.C, d.D = z, z, z, z
		l = append(l, a, b, c, d)
	}
	return l
}

// wrongDisks are disks that may not be: of which |Mid|^2 - Bend Co is not 1, and
// of wrong numbers.
func wrongDisks() []api.Disk {
	tiny := under(top())
	l := []api.Disk{{}}
	for _, x := range []ball{
		balled(0, 0, 0, 0), balled(1, 0, 0, 0), balled(1, 0, 0, 1), balled(-1, 0, 0, -1), balled(0, 0, 0, -1), balled(1, 1, 0, 1), balled(0, 2, 0, 0), balled(0, 1, 1, 0),
		balled(2, 0, 0, -2), balled(1, 2, 0, 0), {rat(1, 2), in(0, 0), rat(-1, 2)}, {rat(1, 1), in(0, 0), plus(rat(-1, 1), tiny)}, {ofInt(top()), in(1, 0), tiny},
	} {
		l = append(l, x.disk())
	}
	for _, x := range wrongFracs() {
		bend, re, im, co, flat := o().disk(), o().disk(), o().disk(), o().disk(), balled(0, 0, 1, 0).disk()
		bend.Bend, re.Mid.Re, im.Mid.Im, co.Co, flat.Bend = x, x, x, x, x
		l = append(l, bend, re, im, co, flat)
	}
	return l
}

// wrongRows are four of which one may not be, in each place.
func wrongRows() [][4]api.Disk {
	l, apart := [][4]api.Disk{{}}, loose()
	for n, d := range wrongDisks() {
		for k, f := range []quad{strip(), knot(), apart[n%len(apart)]} {
			row := f.disks()
			row[(n+k)%4] = d
			l = append(l, row)
		}
	}
	for i := range 4 {
		row := strip().disks()
		row[i] = api.Disk{}
		l = append(l, row)
	}
	return l
}

// loose are four of which two do not touch.
func loose() []quad {
	side := balled(0, 1, 0, 0)
	l := []quad{
		{a(), a(), a(), a()}, {o(), o(), o(), o()}, {side, side, side, side}, {side, side.out(), side, side.out()}, {o(), o().out(), a(), a().out()},
		{o(), a(), b(), b()}, {a(), a(), b(), c()}, {a(), a().out(), b(), c()}, {o(), a(), b(), a().out()},
		{balled(0, 0, 1, 0), balled(0, 0, -1, 0), balled(1, 0, 1, 0), balled(1, 2, 1, 4)},
		knot().out().with(2, b()), knot().with(3, about(in(9, 9), rat(1, 1))), knot().with(3, about(in(0, 0), rat(1, 3))),
		strip().with(1, strip()[0]), strip().with(1, strip()[0].out()), strip().with(3, balled(1, 4, 1, 16)), strip().with(3, strip()[2]), strip().with(3, strip()[2].out()), strip().with(0, balled(0, 1, 0, 0)),
		{longs()[0], longs()[2], longs()[3], longs()[5]}, near(1), near(-1), holed(most()).with(3, c()),
	}
	for i := range 4 {
		l = append(l, strip().with(i, strip()[i].out()), knot().with(i, knot()[i].out()))
	}
	return l
}

// near is the strip, but that two disks all but touch.
func near(by int64) quad {
	return strip().with(3, about(num{plus(rat(2, 1), times(rat(by, 1), under(twos(4000)))), rat(1, 1)}, rat(1, 1)))
}

// holed is a row in which the Co of disk n is n n a / 9: of the most that a may
// be here the disk 2 is too big, and the disks 1 and 3 are not.
func most() *big.Int { return more(top(), -2) }

func holed(a *big.Int) quad { return strip().stretched(flat(quo(ofInt(a), rat(36, 1)))) }

func TestGiven(t *testing.T) { // what the tests lean on
	for n, f := range loose() {
		if !f.fits() || f.touch() {
			t.Errorf("the four %d are to fit and not to touch", n)
		}
	}
	for n, f := range append(gaps(), rows(0)...) {
		if !f.fits() || !f.touch() {
			t.Errorf("the four %d are to fit and to touch", n)
		}
	}
	for _, x := range longs() {
		if !x.fits() || plus(x.mid.norm(), opposite(times(x.bend, x.co))).Cmp(rat(1, 1)) != 0 {
			t.Error("a long one is no disk")
		}
	}
	for n, fits := range map[int]bool{0: true, 1: true, -1: true, 2: false, -2: false, 3: true, -3: true, 4: false, 6: false} {
		if holed(most()).at(n).fits() != fits {
			t.Errorf("disk %d is not as it is to be", n)
		}
	}
}

// wrongNumbers are not from -MaxChain to MaxChain.
func wrongNumbers() []int {
	return []int{api.MaxChain + 1, -api.MaxChain - 1, 1 << 21, -1 << 21, 1 << 31, 1 << 32, -1 << 32, 1<<32 + 1, 1<<32 - 1, math.MaxInt, math.MaxInt - 1, math.MinInt, math.MinInt + 1}
}

// numbers are of all kinds, the bounds among them.
func numbers() []int {
	return []int{0, 1, 2, 3, 4, 5, 7, 10, 100, 12345, api.MaxChain - 1, api.MaxChain, -1, -2, -3, -4, -9, -1000, 1 - api.MaxChain, -api.MaxChain}
}

// odd makes fractions of at most so many bytes above the line and below.
func odd(r *rand.Rand, most int) *big.Rat {
	b := make([]byte, 2*most)
	r.Read(b)
	above, below := new(big.Int).SetBytes(b[:r.Intn(most+1)]), new(big.Int).SetBytes(b[most:][:r.Intn(most+1)])
	if below.Sign() == 0 {
		below.SetInt64(1)
	}
	if r.Intn(2) == 0 {
		above.Neg(above)
	}
	return new(big.Rat).SetFrac(above, below)
}

func oddNum(r *rand.Rand, most int) num { return num{odd(r, most), odd(r, most)} }

// some makes such fractions that are not 0.
func some(r *rand.Rand, most int) *big.Rat {
	for {
		if x := odd(r, most); x.Sign() != 0 {
			return x
		}
	}
}

func someNum(r *rand.Rand, most int) num { return num{some(r, most), odd(r, most)} }

func oddBall(r *rand.Rand, most int) ball {
	if r.Intn(4) == 0 {
		return beyond(oddNum(r, most), someNum(r, most).pointing())
	}
	return about(oddNum(r, most), some(r, most))
}

// oddChart makes maps of all kinds whose determinant's magnitude is a fraction.
func oddChart(r *rand.Rand, most int) chart {
	det := someNum(r, most)
	det = det.times(det).scaled(some(r, 1))
	m := round(oddNum(r, most), oddNum(r, most), det)
	if r.Intn(3) == 0 {
		m = chart{det, oddNum(r, most), in(0, 0), in(1, 0), false}
	}
	m.turns = r.Intn(2) == 0
	return m
}

// oddRow makes four that touch each other.
func oddRow(r *rand.Rand, most int) quad {
	f := []quad{knot(), strip(), knot().out(), strip().out(), knife(rat(r.Int63n(9)+1, 10))}[r.Intn(5)]
	for range r.Intn(6) {
		f = f.changed(r.Intn(4))
	}
	if r.Intn(4) > 0 {
		f = oddChart(r, most).images(f)
	}
	return f.swapped(r.Intn(4), r.Intn(4)).swapped(r.Intn(4), r.Intn(4))
}

// rows are of all kinds, so many odd ones among them.
func rows(count int) []quad {
	r := rand.New(rand.NewSource(2200))
	s, k := strip(), knot()
	l := []quad{
		s, k, s.out(), k.out(), knife(rat(1, 2)), knife(rat(1, 3)), knife(rat(99, 100)), k.on(9), k.on(-7), s.on(3),
		s.swapped(0, 1), s.swapped(2, 3), s.swapped(0, 2), s.swapped(0, 2).swapped(1, 3), s.swapped(1, 3), k.swapped(0, 2), k.swapped(0, 3), k.swapped(0, 1),
		still().turned().images(s), stretch(in(0, 1)).images(s), stretch(in(-3, 4)).images(k), flip().images(s), flip().images(k), round(in(0, 1), in(0, -1), in(0, 2)).images(s),
	}
	l = append(l, longRows()...)
	for n := 0; len(l) < count; n++ {
		if f := oddRow(r, 1+n%8); f.fits() {
			l = append(l, f)
		}
	}
	return l
}

// full makes whole numbers of just so many bytes, none of which a small number
// divides for sure.
func full(r *rand.Rand, count int) *big.Int {
	b := make([]byte, count)
	r.Read(b)
	b[0], b[count-1] = b[0]|0x80, b[count-1]|1
	return new(big.Int).SetBytes(b)
}

func fullRat(r *rand.Rand, count int) *big.Rat {
	return new(big.Rat).SetFrac(full(r, count), full(r, count))
}

// fullUnit is a number of the magnitude 1 whose parts have about twice as many
// bytes.
func fullUnit(r *rand.Rand, count int) num {
	return num{ofInt(full(r, count)), ofInt(full(r, count))}.pointing()
}

// longs are disks as long as may be.
func longs() []ball {
	r := rand.New(rand.NewSource(2201))
	unit, count := fullUnit(r, api.MaxWhole/2-1), api.MaxWhole
	return []ball{
		{none(), unit, fullRat(r, count)}, {none(), unit.neg(), opposite(fullRat(r, count))}, {none(), fullUnit(r, count/2-1), fullRat(r, count)},
		{fullRat(r, count), fullUnit(r, count/2-1), none()}, {opposite(fullRat(r, count)), unit, none()},
		about(in(0, 0), fullRat(r, count)), about(in(0, 0), opposite(fullRat(r, count))),
		about(flat(ofInt(root())), rat(1, 1)), about(flat(ofInt(root())), rat(-1, 1)), about(num{none(), under(more(root(), -1))}, rat(1, 1)),
		{under(top()), in(1, 0), none()}, {none(), in(0, 1), under(top())}, {none(), in(0, -1), ofInt(top())},
	}
}

// longRows are rows of long numbers, of which no disk gets too big up to
// MaxChain, and a little beyond it.
func longRows() []quad {
	r := rand.New(rand.NewSource(2202))
	return []quad{
		knot().stretched(flat(fullRat(r, 1010))), strip().stretched(flat(fullRat(r, 1010))).out(),
		knot().slid(flat(ofInt(full(r, 500)))), strip().slid(flat(fullRat(r, 240))), knot().stretched(fullUnit(r, 500)), strip().stretched(fullUnit(r, 500)),
		knot().slid(num{fullRat(r, 100), fullRat(r, 100)}).stretched(fullUnit(r, 70)), knife(new(big.Rat).SetFrac(full(r, 400), full(r, 500))),
		round(flat(fullRat(r, 120)), num{none(), fullRat(r, 120)}, in(0, 2)).images(strip()),
	}
}

// gaps are rows of which some disks are too big while others are not, either
// way of them: of each one another number is.
func gaps() []quad {
	r := rand.New(rand.NewSource(2203))
	a, quarter := most(), func() *big.Int { return shared(full(r, 512), 4) }
	up := num{ofInt(twos(4095)), ofInt(more(twos(4095), -1))}.pointing() // about i
	return []quad{
		holed(a), flip().images(holed(a)), holed(a).out(), holed(shared(a, 1000)), flip().images(holed(shared(a, 500))), stretch(in(0, 1)).images(holed(shared(a, 40))),
		strip().stretched(up), strip().stretched(up.times(in(0, 1))), strip().stretched(num{ofInt(quarter()), ofInt(quarter())}.pointing()),
		knife(quo(ofInt(full(r, 509)), ofInt(shared(full(r, 512), 16)))), strip().slid(flat(ofInt(more(root(), -5)))), strip().slid(flat(ofInt(more(root(), -100000)))),
		strip().slid(flat(quo(ofInt(new(big.Int).Sub(root(), twos(4093))), ofInt(more(twos(4090), -1))))),
	}
}
