package plane_test

import (
	"math"
	"math/big"
	"math/rand"
	"strings"
	"testing"

	"tracery/api"
)

func pictures() []api.Picture { return []api.Picture{api.Upper, api.Round} }

// noPictures are numbers of no picture.
func noPictures() []api.Picture {
	return []api.Picture{0, 3, -1, -2, 4, 257, 258, math.MaxInt, math.MinInt, math.MinInt + 1, math.MinInt + 2}
}

// wrongFracs are fractions that may not be.
func wrongFracs() []api.Frac {
	small := func(n int64) api.Whole { return whole(big.NewInt(n)) }
	one := small(1)
	return []api.Frac{
		{},
		{Num: one},
		{Num: small(0), Den: small(2)},
		{Num: one, Den: small(-2)},
		{Num: small(6), Den: small(4)},
		{Num: small(3), Den: small(3)},
		{Num: whole(top()), Den: whole(top())},
		{Num: whole(past()), Den: one},
		{Num: whole(new(big.Int).Neg(past())), Den: one},
		{Num: one, Den: whole(past())},
		{Num: api.Whole{Neg: true}, Den: one},
		{Num: api.Whole{Mag: "\x00\x02"}, Den: one},
		{Num: api.Whole{Mag: "\x00"}, Den: one},
		{Num: one, Den: api.Whole{Mag: "\x00"}},
		{Num: one, Den: api.Whole{Neg: true}},
		{Num: api.Whole{Mag: strings.Repeat("\x7f", api.MaxWide+1)}, Den: one},
		{Num: one, Den: api.Whole{Mag: strings.Repeat("\x7f", api.MaxWide+1)}},
	}
}

// wrongNumbers are numbers that may not be, for one part or for both.
func wrongNumbers() []api.Gauss {
	var l []api.Gauss
	for _, x := range wrongFracs() {
		for _, y := range []api.Frac{fraction(none()), fraction(one()), fraction(rat(-1, 3))} {
			l = append(l, api.Gauss{Re: x, Im: y}, api.Gauss{Re: y, Im: x})
		}
		l = append(l, api.Gauss{Re: x, Im: x})
	}
	return l
}

// wrongCircles are circles that may not be: of wrong numbers, not in their one
// form, of no power. Many of them would be upright on an edge.
func wrongCircles() []api.Circle {
	l := []api.Circle{{}}
	for _, k := range []ring{
		ringed(2, 0, 0, -2), ringed(-1, 0, 0, 1), ringed(0, 2, 0, 0), ringed(0, -1, 0, 0), ringed(0, 0, 2, 0), ringed(2, 3, 0, 2), ringed(0, 0, -1, 0),
		ringed(1, 0, 0, 1), ringed(1, 0, 0, 0), ringed(1, 1, 0, 1), ringed(1, 0, 1, 1), ringed(0, 0, 0, 1), ringed(0, 0, 0, 0), ringed(1, 0, 0, 5),
	} {
		l = append(l, k.circle())
	}
	for _, x := range wrongFracs() {
		for _, c := range []api.Circle{ringed(1, 0, 0, -1).circle(), ringed(0, 1, 0, 0).circle(), ringed(1, 2, 0, 1).circle()} {
			a, re, im, last := c, c, c, c
			a.A, re.B.Re, im.B.Im, last.C = x, x, x, x
			l = append(l, a, re, im, last)
		}
	}
	return l
}

// wrongMaps are maps that may not be: for a number, for their form, for being
// flat. Each stands turned, too.
func wrongMaps() []api.Mob {
	l := []api.Mob{{}}
	for _, z := range wrongNumbers() {
		for _, m := range []api.Mob{still().mob(), charted(0, -1, 1, 0).mob()} {
			a, b, c, d := m, m, m, m
			a.A, b.B, c.C, d.D = z, z, z, z
			l = append(l, a, b, c, d)
		}
	}
	for _, m := range []chart{
		charted(2, 0, 0, 2), charted(-1, 0, 0, -1), charted(0, 1, -1, 0), charted(0, -2, 2, 0), charted(1, 0, 2, 1),
		charted(0, 0, 0, 0), charted(0, 0, 0, 1), charted(0, 5, 0, 1), charted(1, 1, 0, 0), charted(0, 0, 1, 0), charted(2, 6, 1, 3),
		{a: in(0, 1), b: in(0, 0), c: in(0, 0), d: in(0, 1)}, {a: in(1, 1), b: in(2, 0), c: in(1, 0), d: in(1, -1)},
	} {
		l = append(l, m.mob())
	}
	for _, m := range l {
		m.Turns = true
		l = append(l, m)
	}
	return l
}

// full makes whole numbers of just so many bytes, odd ones.
func full(r *rand.Rand, count int) *big.Int {
	b := make([]byte, count)
	r.Read(b)
	b[0] |= 0x80
	b[count-1] |= 1
	return new(big.Int).SetBytes(b)
}

// some makes numbers above 0 of at most so many bytes.
func some(r *rand.Rand, most int) *big.Int {
	n := full(r, 1+r.Intn(most))
	n.Rsh(n, uint(r.Intn(8)))
	return n
}

// odd makes fractions of at most so many bytes, of either sign, now and then 0.
func odd(r *rand.Rand, most int) *big.Rat {
	x := ratio(some(r, most), some(r, most))
	switch r.Intn(9) {
	case 0:
		return none()
	case 1, 2, 3, 4:
		return opposite(x)
	}
	return x
}

func oddNum(r *rand.Rand, most int) num { return num{odd(r, most), odd(r, most)} }

// oddPoint makes points of the picture.
func oddPoint(r *rand.Rand, p api.Picture, most int) num {
	if p == api.Upper {
		return num{odd(r, most), ratio(some(r, most), some(r, most))}
	}
	z := oddNum(r, most)
	for !within(p, z) {
		z = num{quo(z.re, rat(2, 1)), quo(z.im, rat(3, 1))}
	}
	return z
}

// longPoint makes points of the picture whose numbers have so many bytes.
func longPoint(r *rand.Rand, p api.Picture, count int) num {
	z := num{ratio(full(r, count), full(r, count)), ratio(full(r, count), full(r, count))}
	if p == api.Round { // both parts below 1/2
		short := max(count-1, 1)
		z = num{ratio(full(r, short), full(r, count)), ratio(full(r, short), full(r, count))}
		if count == 1 {
			z = num{quo(z.re, rat(4, 1)), quo(z.im, rat(4, 1))}
		}
	}
	if r.Intn(2) == 0 {
		z.re = opposite(z.re)
	}
	if p == api.Round && r.Intn(2) == 0 {
		z.im = opposite(z.im)
	}
	return z
}

// grains are points of the picture near each other: many of them lie on one
// straight line, many at one height, or as far from the centre.
func grains(p api.Picture) []num {
	var l []num
	if p == api.Upper {
		for x := int64(-2); x <= 2; x++ {
			l = append(l, in(x, 1), in(x, 2), parts(x, 2, 1, 2), parts(x, 1, 3, 2))
		}
		return append(l, in(3, 4), in(-3, 4), in(4, 3), in(0, 5), parts(3, 5, 4, 5), parts(-4, 5, 3, 5), in(0, 4), parts(1, 1, 1, 1000), parts(-7, 3, 1, 255), in(300, 1))
	}
	for x := int64(-2); x <= 2; x++ {
		for y := int64(-2); y <= 2; y++ {
			if x*x+y*y < 9 {
				l = append(l, parts(x, 3, y, 3))
			}
		}
	}
	return append(l, parts(1, 2, 0, 1), parts(0, 1, -1, 2), parts(1, 2, 1, 2), parts(3, 10, 4, 10), parts(4, 10, -3, 10), parts(-999, 1000, 0, 1), parts(599, 1000, 799, 1000), parts(7, 25, 23, 25))
}

// longs are points with numbers as long as may be, next to the edge, far off.
func longs(p api.Picture) []num {
	r := rand.New(rand.NewSource(2500 + int64(p)))
	most := ofInt(top())
	least := under(top())
	next := ratio(more(top(), -1), top()) // just below 1
	l := []num{longPoint(r, p, api.MaxWhole), longPoint(r, p, api.MaxWhole), longPoint(r, p, 700), longPoint(r, p, 400)}
	if p == api.Upper {
		return append(l,
			num{none(), most}, num{none(), least}, num{most, one()}, num{opposite(most), least}, num{most, most}, num{least, least}, num{most, least},
			num{next, most}, num{one(), ofInt(half())}, num{none(), ofInt(more(half(), -1))}, num{none(), under(half())}, num{ofInt(half()), one()})
	}
	return append(l,
		num{next, none()}, num{none(), next}, num{opposite(next), none()}, num{least, none()}, num{none(), opposite(least)}, num{least, least}, num{opposite(least), ratio(big.NewInt(1), more(top(), -1))},
		num{ratio(more(half(), -1), half()), none()}, num{under(half()), none()}, num{under(half()), under(half())}, parts(3, 5, -4, 5).scaled(ratio(more(half(), -1), half())))
}

// outs are numbers that may be, but are no points: on the edge, beyond it.
func outs(p api.Picture) []num {
	most, least := ofInt(top()), under(top())
	r := rand.New(rand.NewSource(2510 + int64(p)))
	if p == api.Upper {
		z := longPoint(r, p, api.MaxWhole)
		return []num{
			in(0, 0), in(1, 0), in(-3, 0), parts(1, 2, 0, 1), in(0, -1), in(5, -1), parts(1, 2, -1, 1000), in(-2, -7),
			{most, none()}, {least, none()}, {most, opposite(least)}, {none(), opposite(most)}, {none(), opposite(least)}, z.conj(), real(z.re),
		}
	}
	over := ratio(top(), more(top(), -1)) // just above 1
	l := []num{
		in(1, 0), in(-1, 0), in(0, 1), in(0, -1), parts(3, 5, 4, 5), parts(-3, 5, 4, 5), parts(4, 5, -3, 5), parts(5, 13, 12, 13), parts(-20, 29, -21, 29),
		in(1, 1), in(2, 0), in(0, -2), parts(601, 1000, 801, 1000), parts(1001, 1000, 0, 1), parts(2, 3, 3, 4), in(-1, 1), in(3, -7),
		{over, none()}, {none(), opposite(over)}, {most, least}, {least, one()}, {opposite(one()), least}, {most, most}, {none(), most}, {ratio(full(r, api.MaxWhole), full(r, 1000)), opposite(ratio(full(r, 900), full(r, api.MaxWhole)))},
	}
	// A long Pythagorean pair.
	m, n := full(r, 500), full(r, 501)
	z := num{ofInt(m), ofInt(n)}
	z = z.over(z.conj())
	return append(l, z, z.neg(), z.conj())
}

// points are all of these that are points of the picture, and some odd ones.
func points(p api.Picture) []num {
	r := rand.New(rand.NewSource(2520 + int64(p)))
	l := grains(p)
	for n := range 24 {
		l = append(l, oddPoint(r, p, 1+n/3))
	}
	return append(l, longs(p)...)
}

// pairs goes over two points: all near ones, the same one twice, odd ones, some
// of the long ones.
func pairs(p api.Picture, do func(z, w num)) {
	near := grains(p)
	for n, z := range near {
		for m, w := range near {
			if n == m || (n*7+m)%2 == 0 {
				do(z, w)
			}
		}
	}
	r := rand.New(rand.NewSource(2530 + int64(p)))
	for n := range 200 {
		do(oddPoint(r, p, 1+n/12), oddPoint(r, p, 1+n/20))
	}
	far := longs(p)
	for n, z := range far {
		for m, w := range far {
			if n == m || (n+m)%4 == 0 && n+m > 4 { // few, since they take their time
				do(z, w)
			}
		}
		do(z, near[n])
		do(near[n+1], z)
	}
	// Numbers so long that the answers are about as long as may be.
	for n := range 20 {
		do(longPoint(r, p, 50+n*8), longPoint(r, p, 60+n*6))
		do(longPoint(r, p, 100+n*12), near[n])
	}
}

// straights are straight lines of the picture.
func straights(p api.Picture) []ring {
	r := rand.New(rand.NewSource(2540 + int64(p)))
	var l []ring
	if p == api.Upper {
		for x := int64(-2); x <= 2; x++ {
			l = append(l, beside(rat(x, 1)), about(in(x, 0), rat(1, 1)), about(in(x, 0), rat(4, 1)), about(parts(x, 2, 0, 1), rat(2, 1)), about(in(x, 0), rat(25, 1)), about(in(x, 0), rat(1, 9)))
		}
		for n := range 12 {
			l = append(l, beside(odd(r, 1+n/3)), about(real(odd(r, 1+n/3)), ratio(some(r, 2), some(r, 1+n/4))))
		}
		return append(l, beside(rat(3, 1)), about(in(3, 0), rat(16, 1)), about(in(0, 0), rat(1000000, 1)))
	}
	for _, b := range []num{in(1, 0), in(0, 1), in(1, 1), in(1, -1), in(1, 2), parts(1, 1, 4, 3), parts(1, 1, -3, 4)} {
		l = append(l, ring{none(), b, none()}.formed())
	}
	for x := int64(-2); x <= 2; x++ {
		for y := int64(-2); y <= 2; y++ {
			l = append(l, ringed(1, x, y, 1), ring{one(), parts(x, 2, y, 2), one()}, ring{one(), parts(x*5, 4, y*3, 2), one()})
		}
	}
	for n := range 12 {
		l = append(l, ring{none(), num{one(), odd(r, 1+n/3)}, none()}, ring{one(), oddNum(r, 1+n/3), one()}, ring{one(), num{plus(one(), ratio(some(r, 2), some(r, 2))), odd(r, 2)}, one()})
	}
	var out []ring
	for _, k := range l {
		if k.power().Sign() > 0 {
			out = append(out, k)
		}
	}
	return out
}

// longStraights are such with long numbers.
func longStraights(p api.Picture) []ring {
	r := rand.New(rand.NewSource(2550 + int64(p)))
	long := ratio(full(r, api.MaxWhole), full(r, api.MaxWhole))
	other := ratio(full(r, api.MaxWhole), full(r, api.MaxWhole))
	most, least := ofInt(top()), under(top())
	if p == api.Upper {
		return []ring{
			{none(), in(1, 0), long}, {one(), real(long), opposite(other)}, {one(), real(opposite(long)), opposite(other)},
			{none(), in(1, 0), most}, {none(), in(1, 0), least}, {one(), in(0, 0), opposite(most)}, {one(), in(0, 0), opposite(least)}, {one(), real(most), most}, {one(), real(least), opposite(most)},
			{one(), real(ofInt(half())), none()}, {one(), real(most), least},
		}
	}
	return []ring{
		{none(), num{one(), long}, none()}, {none(), num{one(), opposite(most)}, none()}, {none(), num{one(), least}, none()},
		{one(), real(ratio(full(r, api.MaxWhole), full(r, 1000))), one()}, {one(), num{most, most}, one()}, {one(), num{one(), least}, one()}, {one(), num{least, opposite(one())}, one()},
		{one(), num{ratio(top(), more(top(), -1)), none()}, one()}, {one(), num{other, opposite(most)}, one()}, {one(), real(ofInt(half())), one()},
	}
}

// crooked are circles that may be, but are no straight lines of the picture.
func crooked(p api.Picture) []ring {
	r := rand.New(rand.NewSource(2560 + int64(p)))
	most, least := ofInt(top()), under(top())
	l := []ring{
		edgeOf(p), edgeOf(api.Upper), about(in(0, 5), rat(1, 1)), about(in(0, 1), rat(1, 1)), about(in(3, 1), rat(4, 1)), about(in(0, -9), rat(1, 4)), about(in(0, 0), rat(1, 4)), about(in(0, 0), rat(4, 1)),
		ringed(0, 1, 1, 1), ringed(0, 0, 1, 2), ringed(0, 0, 1, -1), ringed(0, 1, 5, -7), about(parts(1, 2, 1, 7), rat(1, 3)),
		{one(), num{none(), least}, opposite(one())}, {one(), num{none(), most}, none()}, {none(), num{one(), least}, least}, {one(), num{one(), least}, opposite(least)}, {one(), in(2, 0), ratio(top(), more(top(), -1))},
	}
	if p == api.Upper {
		l = append(l, ring{none(), num{one(), least}, none()}, ringed(1, 2, 1, 1))
	} else {
		l = append(l, ring{none(), in(1, 0), least}, ringed(0, 1, 0, -1), ringed(1, 2, 0, 2), ringed(0, 0, 1, 1), about(in(0, 0), rat(25, 1)))
	}
	for range 40 {
		if k := (ring{rat(r.Int63n(2), 1), oddNum(r, 3), odd(r, 3)}); k.power().Sign() > 0 {
			l = append(l, k.formed())
		}
	}
	var out []ring
	for _, k := range l {
		if !k.right(edgeOf(p)) && k.fits() {
			out = append(out, k)
		}
	}
	return out
}

func TestGiven(t *testing.T) { // what the tests lean on
	for _, p := range pictures() {
		for _, z := range points(p) {
			if !z.fits() || !within(p, z) {
				t.Errorf("%s is no point of %d", brief(z), p)
			}
			back := inRound(p, z)
			if p == api.Upper {
				back = inUpper(api.Round, back)
			}
			if !within(api.Upper, inUpper(p, z)) || !within(api.Round, inRound(p, z)) || p == api.Upper && !back.same(z) {
				t.Errorf("%s is brought elsewhere", brief(z))
			}
		}
		pairs(p, func(z, w num) {
			if !z.fits() || !w.fits() || !within(p, z) || !within(p, w) {
				t.Fatalf("%s, %s are no points of %d", brief(z), brief(w), p)
			}
		})
		for _, z := range outs(p) {
			if !z.fits() || within(p, z) {
				t.Errorf("%s is a point of %d, or too big", brief(z), p)
			}
		}
		for _, k := range append(straights(p), longStraights(p)...) {
			if !k.fits() || k.power().Sign() <= 0 || !k.right(edgeOf(p)) || k.circle() != k.formed().circle() {
				t.Errorf("%s is no straight line of %d", brief(k), p)
			}
		}
		if n := len(crooked(p)); n < 30 {
			t.Errorf("just %d are no straight lines of %d", n, p)
		}
	}
	for _, k := range straights(api.Round) {
		l := k.inUpper()
		if !l.right(edgeOf(api.Upper)) {
			t.Errorf("%s is brought to %s", brief(k), brief(l))
		}
	}
}
