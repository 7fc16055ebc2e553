package descartes_test

import (
	"math"
	"math/big"
	"math/rand"
	"strings"

	"tracery/api"
)

// wrongFracs are fractions that may not be.
func wrongFracs() []api.Frac {
	one := small(1)
	return []api.Frac{
		{},
		{Num: one},
		{Num: small(0), Den: small(2)},
		{Num: one, Den: small(-2)},
		{Num: small(6), Den: small(4)},
		{Num: whole(top()), Den: whole(top())},
		{Num: whole(past()), Den: one},
		{Num: one, Den: whole(past())},
		{Num: api.Whole{Neg: true}, Den: one},
		{Num: api.Whole{Mag: "\x00\x01"}, Den: one},
		{Num: one, Den: api.Whole{Mag: "\x00"}},
		{Num: api.Whole{Mag: strings.Repeat("\x7f", api.MaxWide+1)}, Den: one},
	}
}

func wrongNums() []api.Gauss {
	var l []api.Gauss
	for _, x := range wrongFracs() {
		l = append(l, api.Gauss{Re: x, Im: over(1, 1)}, api.Gauss{Re: over(0, 1), Im: x})
	}
	return l
}

// wrongPoints are points that may not be: such numbers, and infinity beside any.
func wrongPoints() []api.Point {
	l := []api.Point{{Inf: true, Z: in(0, 0).gauss()}, {Inf: true, Z: in(0, 1).gauss()}, {Inf: true, Z: api.Gauss{Im: over(1, 1)}}}
	for _, z := range wrongNums() {
		l = append(l, api.Point{Z: z})
	}
	return l
}

// wrongCircles are circles that may not be: not in their one form, of no power,
// of wrong numbers.
func wrongCircles() []api.Circle {
	l := []api.Circle{{}}
	for _, k := range []ring{
		ringed(2, 0, 0, -2), ringed(-1, 0, 0, 1), ringed(0, 2, 0, 0), ringed(0, -1, 0, 0), ringed(0, 0, 2, 0), ringed(0, 0, -1, 0), ringed(0, 3, 4, 0), ringed(0, -1, 1, 5),
		ringed(1, 0, 0, 1), ringed(1, 0, 0, 0), ringed(1, 1, 0, 1), ringed(1, 3, 4, 26), ringed(0, 0, 0, 0), ringed(0, 0, 0, -1), {rat(1, 2), in(1, 0), none()},
	} {
		l = append(l, k.circle())
	}
	for _, x := range wrongFracs() {
		a, flat, re, im, c, d := ringed(1, 0, 0, -1).circle(), ringed(0, 1, 0, 0).circle(), ringed(1, 0, 0, -1).circle(), ringed(0, 1, 0, 0).circle(), ringed(1, 0, 0, -1).circle(), ringed(0, 0, 1, 0).circle()
		a.A, flat.A, re.B.Re, im.B.Im, c.C, d.C = x, x, x, x, x, x
		l = append(l, a, flat, re, im, c, d)
	}
	return l
}

// wrongMaps are maps that may not be: flat, not in their one form, of wrong
// numbers.
func wrongMaps() []api.Mob {
	l := []api.Mob{{}}
	for _, m := range []chart{
		stretch(in(0, 0)), round(in(1, 0), in(2, 0), in(0, 0)),
		{a: in(2, 0), b: in(0, 0), c: in(0, 0), d: in(2, 0)},
		{a: in(0, 0), b: in(1, 0), c: in(2, 0), d: in(0, 0)},
		{a: in(0, 0), b: in(1, 0), c: in(-1, 0), d: in(0, 0)},
	} {
		l = append(l, m.mob(), m.turned().mob())
	}
	for _, z := range wrongNums() {
		a, b, c, d := still().mob(), still().mob(), flip().mob(), flip().mob()
		a.A, b.B, c.C, d.D = z, z, z, z
		l = append(l, a, b, c, d)
	}
	return l
}

// wrongDisks are disks that may not be: whose power is not 1, and of wrong
// numbers.
func wrongDisks() []api.Disk {
	tiny := under(top())
	l := []api.Disk{{}}
	for _, x := range []ball{
		balled(0, 0, 0, 0), balled(1, 0, 0, 0), balled(1, 0, 0, 1), balled(-1, 0, 0, -1), balled(0, 0, 0, -1), balled(1, 1, 0, 1), balled(0, 2, 0, 0), balled(0, 1, 1, 0),
		balled(2, 0, 0, -2), balled(1, 2, 0, 0), balled(2, 3, 4, 13), balled(1, 0, 1, 1), {none(), parts(3, 5, 4, 7), none()}, {rat(1, 2), in(0, 0), rat(-1, 2)},
		{rat(1, 1), in(0, 0), plus(rat(-1, 1), tiny)}, {none(), num{rat(1, 1), tiny}, none()}, {tiny, in(1, 0), tiny}, {ofInt(top()), in(0, 0), times(rat(-2, 1), tiny)},
		{ofInt(top()), in(1, 0), tiny}, {tiny, in(1, 0), ofInt(top())},
	} {
		l = append(l, x.disk())
	}
	for _, x := range wrongFracs() {
		bend, re, im, co, flat, up := o().disk(), o().disk(), o().disk(), o().disk(), balled(0, 0, 1, 0).disk(), balled(0, 0, 1, 0).disk()
		bend.Bend, re.Mid.Re, im.Mid.Im, co.Co, flat.Bend, up.Co = x, x, x, x, x, x
		l = append(l, bend, re, im, co, flat, up)
	}
	return l
}

func wrongSides() []int {
	return []int{0, 2, -2, 3, 1 << 32, 1<<32 + 1, -1<<32 - 1, math.MaxInt, math.MinInt}
}

func wrongPlaces() []int {
	return []int{-1, 4, -4, 5, 1 << 32, -1 << 32, 1<<32 + 1, math.MaxInt, math.MinInt}
}

// grains are disks of small numbers, of all kinds.
func grains() []ball {
	l := disksAlong(parts(3, 5, 4, 5))
	for _, along := range []num{in(1, 0), in(-1, 0), in(0, 1), in(0, -1)} {
		l = append(l, disksAlong(along)...)
	}
	for bend := int64(-3); bend <= 3; bend++ {
		for re := int64(-2); re <= 2 && bend != 0; re++ {
			for im := int64(-1); im <= 2; im++ {
				l = append(l, about(parts(re, bend, im, bend), rat(1, bend)))
			}
		}
	}
	return append(l, o(), a(), b(), c())
}

// disksAlong are half planes along a number of the magnitude 1.
func disksAlong(along num) []ball {
	var l []ball
	for co := int64(-3); co <= 3; co++ {
		l = append(l, ball{none(), along, rat(co, 2)})
	}
	return l
}

// odd makes fractions of at most so many bytes above the line and below.
func odd(r *rand.Rand, most int) *big.Rat {
	b := make([]byte, 2*most)
	r.Read(b)
	above, below := new(big.Int).SetBytes(b[:r.Intn(most+1)]), new(big.Int).SetBytes(b[most:][:r.Intn(most+1)])
	if below.Sign() == 0 {
		below.SetInt64(1)
	}
	if r.Intn(2) == 0 {
		above.Neg(above)
	}
	return new(big.Rat).SetFrac(above, below)
}

// some makes such fractions that are not 0.
func some(r *rand.Rand, most int) *big.Rat {
	for {
		if x := odd(r, most); x.Sign() != 0 {
			return x
		}
	}
}

func oddNum(r *rand.Rand, most int) num {
	switch z := (num{odd(r, most), odd(r, most)}); r.Intn(8) {
	case 0:
		return num{none(), z.im}
	case 1:
		return flat(z.re)
	default:
		return z
	}
}

func someNum(r *rand.Rand, most int) num {
	for {
		if z := oddNum(r, most); !z.zero() {
			return z
		}
	}
}

// oddBall makes disks of all kinds.
func oddBall(r *rand.Rand, most int) ball {
	if r.Intn(4) == 0 {
		return beyond(oddNum(r, most), someNum(r, most).pointing())
	}
	return about(oddNum(r, most), some(r, most))
}

// oddChart makes maps of all kinds whose determinant's magnitude is a fraction.
func oddChart(r *rand.Rand, most int) chart {
	det := someNum(r, most)
	det = det.times(det).scaled(some(r, 1))
	m := round(oddNum(r, most), oddNum(r, most), det)
	if r.Intn(3) == 0 {
		m = chart{det, oddNum(r, most), in(0, 0), in(1, 0), false}
	}
	m.turns = r.Intn(2) == 0
	return m
}

// oddQuad makes four that touch each other.
func oddQuad(r *rand.Rand, most int) quad {
	f := []quad{knot(), strip(), knot().out(), ford(int64(r.Intn(9) + 1))}[r.Intn(4)]
	f[0], f[1], f[2], f[3] = f[2], f[3], f[0], f[1]
	for range r.Intn(6) {
		f = f.changed(r.Intn(4))
	}
	if r.Intn(3) > 0 {
		f = oddChart(r, most).images(f)
	}
	i, j := r.Intn(4), r.Intn(4)
	f[i], f[j] = f[j], f[i]
	return f
}

// ford is chapter 23's: the lower half plane, and the disks over 0, 1 / n and
// 1 / (n + 1).
func ford(n int64) quad { return fordAt(big.NewInt(n)) }

func fordAt(n *big.Int) quad {
	over := func(q *big.Int) ball {
		x := ofInt(q)
		return ball{double(square(x)), num{double(x), rat(1, 1)}, rat(2, 1)}
	}
	return quad{balled(0, 0, -1, 0), balled(2, 0, 1, 0), over(n), over(more(n, 1))}
}

// full makes whole numbers of just so many bytes, none of which a small number
// divides for sure.
func full(r *rand.Rand, count int) *big.Int {
	b := make([]byte, count)
	r.Read(b)
	b[0], b[count-1] = b[0]|0x80, b[count-1]|1
	return new(big.Int).SetBytes(b)
}

func fullRat(r *rand.Rand, count int) *big.Rat {
	return new(big.Rat).SetFrac(full(r, count), full(r, count))
}

// fullUnit is a number of the magnitude 1 whose parts have about twice as many
// bytes.
func fullUnit(r *rand.Rand, count int) num {
	return num{ofInt(full(r, count)), ofInt(full(r, count))}.pointing()
}

// longs are disks as long as may be.
func longs() []ball {
	r := rand.New(rand.NewSource(2000))
	unit, count := fullUnit(r, api.MaxWhole/2-1), api.MaxWhole
	return []ball{
		{none(), unit, fullRat(r, count)}, {none(), unit.neg(), opposite(fullRat(r, count))}, {none(), fullUnit(r, count/2-1), fullRat(r, count)},
		{fullRat(r, count), fullUnit(r, count/2-1), none()}, {opposite(fullRat(r, count)), unit, none()},
		about(in(0, 0), fullRat(r, count)), about(in(0, 0), opposite(fullRat(r, count))),
		about(flat(ofInt(root())), rat(1, 1)), about(flat(ofInt(root())), rat(-1, 1)), about(num{none(), under(more(root(), -1))}, rat(1, 1)),
		{under(top()), in(1, 0), none()}, {none(), in(0, 1), under(top())}, {none(), in(0, -1), ofInt(top())},
	}
}

// pairs goes over two disks: small ones, odd ones, long ones.
func pairs(do func(x, y ball)) {
	for n, x := range grains() {
		for m, y := range grains() {
			if n == m || (n+m)%3 == 0 {
				do(x, y)
			}
		}
		do(x, x.out())
	}
	r := rand.New(rand.NewSource(2001))
	for range 300 {
		x, y := oddBall(r, 6), oddBall(r, 6)
		do(x, y)
		do(x, x.out())
		f := oddQuad(r, 3)
		do(f[r.Intn(4)], f[r.Intn(4)])
		do(f[0], f[1])
		do(f[2], f[3].out())
		do(x, f[0])
	}
	long := longs()
	for n, x := range long {
		for _, y := range long[n:] {
			do(x, y)
		}
		do(x, x.out())
	}
}

// quads goes over four that touch each other.
func quads(seed int64, count int, do func(f quad)) {
	for _, f := range []quad{knot(), strip(), knot().out(), strip().out(), ford(1), ford(7), knot().row(9)} {
		do(f)
	}
	r := rand.New(rand.NewSource(seed))
	for n := range count {
		if f := oddQuad(r, 1+n%8); f.fits() {
			do(f)
		}
	}
}
