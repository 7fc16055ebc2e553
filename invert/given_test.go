package invert_test

import (
	"math/big"
	"math/rand"
	"strings"

	"tracery/api"
)

// wrongFracs are fractions that may not be.
func wrongFracs() []api.Frac {
	one := small(1)
	return []api.Frac{
		{},
		{Num: one},
		{Num: small(0), Den: small(2)},
		{Num: one, Den: small(-2)},
		{Num: small(6), Den: small(4)},
		{Num: whole(top()), Den: whole(top())},
		{Num: whole(past()), Den: one},
		{Num: whole(new(big.Int).Neg(past())), Den: one},
		{Num: one, Den: whole(past())},
		{Num: api.Whole{Neg: true}, Den: one},
		{Num: api.Whole{Mag: "\x00\x01"}, Den: one},
		{Num: one, Den: api.Whole{Mag: "\x00"}},
		{Num: api.Whole{Mag: strings.Repeat("\x7f", api.MaxWide+1)}, Den: one},
	}
}

// wrongNumbers are numbers that may not be, for one part or for both.
func wrongNumbers() []api.Gauss {
	var l []api.Gauss
	for _, x := range wrongFracs() {
		l = append(l, api.Gauss{Re: x, Im: over(0, 1)}, api.Gauss{Re: over(1, 1), Im: x}, api.Gauss{Re: x, Im: x})
	}
	return l
}

// wrongPoints are points that may not be: such numbers, and infinity beside any.
func wrongPoints() []api.Point {
	l := []api.Point{{Inf: true, Z: in(0, 0).gauss()}, {Inf: true, Z: in(1, 2).gauss()}, {Inf: true, Z: api.Gauss{Re: over(0, 1)}}}
	for _, z := range wrongNumbers() {
		l = append(l, api.Point{Z: z})
	}
	return l
}

// wrongCircles are circles that may not be: not in their one form, of no power,
// of wrong numbers.
func wrongCircles() []api.Circle {
	l := []api.Circle{{}}
	for _, k := range []ring{
		ringed(2, 0, 0, -2), ringed(-1, 0, 0, 1), ringed(0, 2, 0, 0), ringed(0, -1, 0, 0), ringed(0, 0, 2, 0), ringed(0, 0, -1, 0), ringed(0, -1, 1, 5),
		ringed(1, 0, 0, 1), ringed(1, 0, 0, 0), ringed(1, 1, 0, 1), ringed(1, 3, 4, 26), ringed(0, 0, 0, 0), ringed(0, 0, 0, 5), {rat(1, 2), in(1, 0), none()},
		{ofInt(top()), in(0, 0), rat(-1, 1)}, {rat(1, 1), in(0, 0), under(top())}, {none(), real(ofInt(top())), none()},
	} {
		l = append(l, k.circle())
	}
	for _, x := range wrongFracs() {
		a, flat, re, im, c, d := unit().circle(), reals().circle(), unit().circle(), ups().circle(), unit().circle(), reals().circle()
		a.A, flat.A, re.B.Re, im.B.Im, c.C, d.C = x, x, x, x, x, x
		l = append(l, a, flat, re, im, c, d)
	}
	return l
}

// wrongMaps are maps that may not be: for a number, for their form, for being
// flat. Each stands turned, too.
func wrongMaps() []api.Mob {
	l := []api.Mob{{}}
	for _, z := range wrongNumbers() {
		for _, m := range []api.Mob{still().mob(), charted(0, 1, 1, 0).mob(), charted(3, 1, 1, 2).mob()} {
			a, b, c, d := m, m, m, m
			a.A, b.B, c.C, d.D = z, z, z, z
			l = append(l, a, b, c, d)
		}
	}
	long := real(ofInt(top()))
	for _, m := range []chart{
		charted(2, 0, 0, 2), charted(1, 0, 0, -1), charted(0, 2, 2, 0), charted(0, 1, -1, 0), charted(1, 0, 2, 1), // another form's
		{a: in(0, 1), b: in(0, 0), c: in(0, 0), d: in(0, 1)}, {a: in(0, 0), b: in(1, 0), c: in(0, 1), d: in(0, 0)},
		charted(0, 0, 0, 0), charted(0, 0, 0, 1), charted(0, 5, 0, 1), charted(1, 1, 0, 0), charted(0, 0, 1, 0), charted(2, 6, 1, 3), charted(1, -1, 1, -1), // flat
		{a: in(1, 1), b: in(2, 0), c: in(1, 0), d: in(1, -1)}, {a: long, b: long, c: in(1, 0), d: in(1, 0)},
	} {
		l = append(l, m.mob())
	}
	for _, m := range l {
		m.Turns = true
		l = append(l, m)
	}
	return l
}

// odd makes fractions of at most so many bytes above the line and below.
func odd(r *rand.Rand, most int) *big.Rat {
	b := make([]byte, 2*most)
	r.Read(b)
	above, below := new(big.Int).SetBytes(b[:r.Intn(most+1)]), new(big.Int).SetBytes(b[most:][:r.Intn(most+1)])
	if below.Sign() == 0 {
		below.SetInt64(1)
	}
	if r.Intn(2) == 0 {
		above.Neg(above)
	}
	return new(big.Rat).SetFrac(above, below)
}

func oddNum(r *rand.Rand, most int) num {
	switch z := (num{odd(r, most), odd(r, most)}); r.Intn(8) {
	case 0:
		return num{none(), z.im}
	case 1:
		return real(z.re)
	default:
		return z
	}
}

func oddSpot(r *rand.Rand, most int) spot {
	if r.Intn(10) == 0 {
		return far()
	}
	return at(oddNum(r, most))
}

// oddRing makes circles and lines in their one form.
func oddRing(r *rand.Rand, most int) ring {
	for {
		k := ring{rat(1, 1), oddNum(r, most), odd(r, most)}
		if r.Intn(4) == 0 {
			k.a = none()
		}
		if !k.empty() && k.formed().fits() {
			return k.formed()
		}
	}
}

// full makes fractions whose numbers have just so many bytes, nearly always.
func full(r *rand.Rand, count int) *big.Rat {
	b := make([]byte, 2*count)
	r.Read(b)
	b[0], b[count] = b[0]|0x80, b[count]|0x80
	return new(big.Rat).SetFrac(new(big.Int).SetBytes(b[:count]), new(big.Int).SetBytes(b[count:]))
}

func fullNum(r *rand.Rand, count int) num { return num{full(r, count), full(r, count)} }

// fullRing is a circle of such numbers; fullLine a line.
func fullRing(r *rand.Rand, count int) ring {
	return ring{rat(1, 1), fullNum(r, count), opposite(full(r, count))}
}

func fullLine(r *rand.Rand, count int) ring {
	return ring{none(), num{rat(1, 1), full(r, count)}, full(r, count)}
}

// steep is a line through 0 the turning over which is too big, though the line
// is not.
func steep() ring { return ring{none(), num{rat(1, 1), ofInt(less(top(), 1))}, none()} }

// grains are all circles and lines of small whole numbers, in their one form.
func grains() []ring {
	var l []ring
	for re := int64(-2); re <= 2; re++ {
		for im := int64(-1); im <= 1; im++ {
			for c := int64(-4); c <= 4; c++ {
				if k := ringed(1, re, im, c); !k.empty() {
					l = append(l, k)
				}
			}
		}
	}
	for im := int64(-1); im <= 2; im++ {
		for c := int64(-2); c <= 2; c++ {
			l = append(l, ringed(0, 1, im, c))
		}
	}
	return append(l, ringed(0, 0, 1, -2), reals(), ringed(0, 0, 1, 1))
}

// longs are circles and lines as long as may be.
func longs() []ring {
	r := rand.New(rand.NewSource(1400))
	most := real(ofInt(less(root(), 1)))
	l := []ring{
		fullRing(r, api.MaxWhole), fullLine(r, api.MaxWhole), fullRing(r, api.MaxWhole), fullLine(r, api.MaxWhole),
		{rat(1, 1), most, minus(most.norm(), rat(1, 1))}, {rat(1, 1), in(0, 0), opposite(ofInt(top()))}, {rat(1, 1), in(0, 0), opposite(under(top()))},
		{rat(1, 1), num{ofInt(top()), under(top())}, ofInt(top())}, {none(), num{rat(1, 1), ofInt(top())}, under(top())},
		{none(), num{rat(1, 1), opposite(under(top()))}, ofInt(top())}, {none(), in(1, 0), ofInt(top())}, {none(), in(1, 0), opposite(under(top()))},
	}
	return append(l, unit(), reals(), steep())
}

// rings are all of these, and some odd ones.
func rings() []ring {
	r := rand.New(rand.NewSource(1401))
	l := append(grains(), longs()...)
	for range 40 {
		l = append(l, oddRing(r, 6))
	}
	return l
}

// spots are some points: near 0, infinity, odd ones, ones as long as may be.
func spots() []spot {
	r := rand.New(rand.NewSource(1402))
	l := []spot{far(), at(num{rat(1, 2), rat(-3, 2)}), at(real(ofInt(top()))), at(num{ofInt(less(top(), 1)), under(top())})}
	for re := int64(-2); re <= 2; re++ {
		for im := int64(-2); im <= 2; im++ {
			l = append(l, on(re, im))
		}
	}
	for range 6 {
		l = append(l, oddSpot(r, 6))
	}
	return l
}

// pairs goes over two circles: small ones, some odd ones, long ones, the same
// one twice, ones at right angles.
func pairs(do func(k, l ring)) {
	for n, k := range grains() {
		for m, l := range grains() {
			if n == m || (n+m)%3 == 0 {
				do(k, l)
			}
		}
	}
	r := rand.New(rand.NewSource(1403))
	for range 150 {
		k, l := oddRing(r, 5), oddRing(r, 5)
		do(k, l)
		if m, one := common(k, l, oddSpot(r, 2)); one && m.fits() {
			do(k, m)
			do(m, l)
		}
	}
	for n, k := range longs() {
		for m, l := range longs() {
			if n == m || (n+m)%3 == 0 {
				do(k, l)
			}
		}
	}
}
