package tiles_test

import (
	"math"
	"math/big"
	"math/rand"
	"slices"
	"strings"

	"tracery/api"
)

// wrongFracs are fractions that may not be.
func wrongFracs() []api.Frac {
	one := small(1)
	return []api.Frac{
		{},
		{Num: one},
		{Num: small(0), Den: small(2)},
		{Num: one, Den: small(-2)},
		{Num: small(6), Den: small(4)},
		{Num: whole(past()), Den: one},
		{Num: one, Den: whole(past())},
		{Num: api.Whole{Neg: true}, Den: one},
		{Num: api.Whole{Mag: "\x00\x01"}, Den: one},
		{Num: api.Whole{Mag: strings.Repeat("\x7f", api.MaxWide+1)}, Den: one},
	}
}

// wrongPoints are points that may not be: such numbers, and infinity beside any.
func wrongPoints() []api.Point {
	l := []api.Point{{}, {Inf: true, Z: in(0, 0).gauss()}, {Inf: true, Z: in(0, 1).gauss()}, {Inf: true, Z: api.Gauss{Im: over(1, 1)}}}
	for _, x := range wrongFracs() {
		l = append(l, api.Point{Z: api.Gauss{Re: x, Im: over(1, 1)}}, api.Point{Z: api.Gauss{Re: over(0, 1), Im: x}})
	}
	return l
}

// wrongCircles are circles that may not be: not in their one form, of no power,
// of wrong numbers.
func wrongCircles() []api.Circle {
	l := []api.Circle{{}}
	for _, k := range []ring{
		ringed(2, 0, 0, -2), ringed(-1, 0, 0, 1), ringed(0, 2, 0, 0), ringed(0, -1, 0, 0), ringed(0, 0, 2, 0), ringed(0, 0, -1, 0),
		ringed(1, 0, 0, 1), ringed(1, 0, 0, 0), ringed(1, 1, 0, 1), ringed(0, 0, 0, 0), ringed(0, 0, 0, 5), {rat(1, 2), in(1, 0), rat(0, 1)},
	} {
		l = append(l, k.circle())
	}
	for _, x := range wrongFracs() {
		a, re, im, c := unit().circle(), unit().circle(), beside(rat(1, 2)).circle(), level(rat(0, 1)).circle()
		a.A, re.B.Re, im.B.Im, c.C = x, x, x, x
		l = append(l, a, re, im, c)
	}
	return l
}

// wrongSides are sides that may not be: such circles, and signs that are none.
func wrongSides() []api.Side {
	var l []api.Side
	for _, c := range wrongCircles() {
		l = append(l, api.Side{Circle: c, Sign: 1}, api.Side{Circle: c, Sign: -1, Edge: true})
	}
	for _, sign := range []int{0, 2, -2, 3, 1 << 32, 1<<32 + 1, -1<<32 - 1, math.MaxInt, math.MinInt} {
		l = append(l, api.Side{Circle: unit().circle(), Sign: sign}, api.Side{Circle: beside(rat(1, 3)).circle(), Sign: sign, Edge: true})
	}
	return append(l, api.Side{})
}

// wrongMaps are maps that may not be: for a number, for their form, for being
// flat. Each stands turned, too.
func wrongMaps() []api.Mob {
	l := []api.Mob{{}}
	for _, x := range wrongFracs() {
		for _, m := range []api.Mob{still().mob(), swap().mob()} {
			a, b, c, d := m, m, m, m
			a.A.Re, b.B.Im, c.C.Re, d.D.Im = x, x, x, x
			l = append(l, a, b, c, d)
		}
	}
	for _, n := range [][4]int64{{2, 0, 0, 2}, {1, 0, 0, -1}, {0, 2, 2, 4}, {1, 0, 2, 1}, {0, 0, 0, 0}, {0, 5, 0, 1}, {1, 1, 0, 0}, {2, 6, 1, 3}} {
		l = append(l, chart{a: in(n[0], 0), b: in(n[1], 0), c: in(n[2], 0), d: in(n[3], 0)}.mob())
	}
	for _, m := range l {
		m.Turns = true
		l = append(l, m)
	}
	return l
}

// wrongTilings are tilings that may not be.
func wrongTilings() []api.Tiling {
	good := modular().tiling()
	many := crowd(17).tiling()
	l := []api.Tiling{
		{}, {Sides: []api.Side{}, Maps: []api.Mob{}}, {Sides: good.Sides}, {Maps: good.Maps},
		{Sides: good.Sides, Maps: good.Maps[:2]}, {Sides: good.Sides[:2], Maps: good.Maps},
		many, {Sides: many.Sides, Maps: many.Maps[:16]}, {Sides: many.Sides[:16], Maps: many.Maps},
	}
	for k, s := range wrongSides() {
		sides := slices.Clone(good.Sides)
		sides[k%3] = s
		l = append(l, api.Tiling{Sides: sides, Maps: good.Maps})
	}
	for k, m := range wrongMaps() {
		maps := slices.Clone(good.Maps)
		maps[k%3] = m
		l = append(l, api.Tiling{Sides: good.Sides, Maps: maps})
	}
	return l
}

// modular is the whole matrices' tiling by the chapter's words.
func modular() deal {
	return deal{
		[]verge{{ringed(0, 1, 0, -1), -1, false}, {ringed(0, 1, 0, 1), 1, true}, {unit(), 1, true}},
		[]chart{slide(in(-1, 0)), slide(in(1, 0)), swap()},
	}
}

// squares are brought into one by slides.
func squares() deal {
	return deal{
		[]verge{{beside(rat(1, 1)), -1, false}, {beside(rat(0, 1)), 1, true}, {level(rat(1, 1)), 1, false}, {level(rat(0, 1)), -1, true}},
		[]chart{slide(in(-1, 0)), slide(in(1, 0)), slide(in(0, -1)), slide(in(0, 1))},
	}
}

// kite is the half of the home to the left of Re z = 0, each side a mirror.
func kite() deal {
	return deal{
		[]verge{{beside(rat(0, 1)), -1, true}, {beside(rat(-1, 2)), 1, true}, {unit(), 1, true}},
		[]chart{stretch(in(-1, 0)).turned(), stretch(in(-1, 0)).turned().behind(slide(in(1, 0))), charted(0, 1, 1, 0).turned()},
	}
}

// shells are |z| from 1 to 2, and what comes of that by doubling.
func shells() deal {
	return deal{
		[]verge{{about(in(0, 0), rat(4, 1)), -1, false}, {unit(), 1, true}},
		[]chart{stretch(flat(rat(1, 2))), stretch(in(2, 0))},
	}
}

// crowd is a disk with n sides, all of them the same, each with a slide of its
// own.
func crowd(n int) deal {
	var d deal
	for k := range n {
		d.sides = append(d.sides, verge{about(in(0, 0), rat(int64(100+k), 1)), -1, k%2 == 0})
		d.maps = append(d.maps, slide(in(-1, int64(k-8))))
	}
	return d
}

// stuck holds no point at all: so it leads on for ever.
func stuck(m chart) deal {
	return deal{[]verge{{unit(), 1, false}, {unit(), -1, false}}, []chart{m, m}}
}

// named is a tiling with its name.
type named struct {
	name string
	deal
}

func deals() []named {
	return []named{
		{"the whole matrices'", modular()}, {"of squares", squares()}, {"of a kite", kite()}, {"of shells", shells()},
		{"of one side", crowd(1)}, {"of sixteen sides", crowd(16)}, {"of no end", stuck(slide(parts(1, 3, -1, 2)))}, {"of no end, turning", stuck(swap().turned().behind(slide(in(1, 1))))},
		{"of a side whose map is another one's", deal{append(squares().sides, squares().sides...), append(squares().maps, squares().maps...)}},
	}
}

// rings are some of all kinds.
func rings() []ring {
	return []ring{
		unit(), about(in(0, 0), rat(4, 1)), about(in(3, 4), rat(25, 1)), about(in(1, 0), rat(2, 1)), about(parts(1, 2, -1, 3), rat(3, 7)),
		beside(rat(0, 1)), beside(rat(1, 2)), level(rat(0, 1)), level(rat(-2, 1)), ringed(0, 1, 1, 0), ringed(0, 1, -1, -2), {rat(0, 1), parts(1, 1, 2, 3), rat(5, 1)},
	}
}

// spots are on these, between them, and far out.
func spots() []spot {
	l := []spot{far(), at(parts(1, 2, 0, 1)), at(parts(3, 5, 4, 5)), at(parts(-1, 2, 1, 1)), at(flat(ofInt(top()))), at(flat(under(top()))), at(num{under(top()), ofInt(top())})}
	for re := int64(-2); re <= 3; re++ {
		for im := int64(-3); im <= 2; im++ {
			l = append(l, on(re, im))
		}
	}
	return l
}

// charts are some of all kinds.
func charts() []chart {
	l := []chart{
		still(), slide(in(1, 0)), slide(parts(-1, 2, 1, 3)), stretch(in(2, 0)), stretch(in(0, 1)), stretch(in(-1, 0)), stretch(parts(1, 2, 3, 4)), swap(), charted(0, 1, 1, 0), charted(1, -1, 1, 1),
		{in(1, 0), in(0, -1), in(1, 0), in(0, 1), false}, charted(1, 2, 3, 4), {parts(1, 2, 1, 3), in(0, 2), in(1, 0), parts(2, 3, -1, 1), false},
	}
	for _, m := range l {
		l = append(l, m.turned())
	}
	return l
}

// odd makes fractions of at most so many bytes above the line and below.
func odd(r *rand.Rand, most int) *big.Rat {
	b := make([]byte, 2*most)
	r.Read(b)
	above, below := new(big.Int).SetBytes(b[:r.Intn(most+1)]), new(big.Int).SetBytes(b[most:][:r.Intn(most+1)])
	if below.Sign() == 0 {
		below.SetInt64(1)
	}
	if r.Intn(2) == 0 {
		above.Neg(above)
	}
	return new(big.Rat).SetFrac(above, below)
}

func oddNum(r *rand.Rand, most int) num {
	switch z := (num{odd(r, most), odd(r, most)}); r.Intn(8) {
	case 0:
		return num{new(big.Rat), z.im}
	case 1:
		return flat(z.re)
	default:
		return z
	}
}

func oddSpot(r *rand.Rand, most int) spot {
	if r.Intn(10) == 0 {
		return far()
	}
	return at(oddNum(r, most))
}

// oddVerge makes circles and lines in their one form, with either sign.
func oddVerge(r *rand.Rand, most int) verge {
	for {
		k := ring{rat(1, 1), oddNum(r, most), odd(r, most)}
		if r.Intn(3) == 0 {
			k.a = new(big.Rat)
		}
		if !k.empty() && k.formed().fits() {
			return verge{k.formed(), 2*r.Intn(2) - 1, r.Intn(2) == 0}
		}
	}
}

func oddChart(r *rand.Rand, most int) chart {
	for {
		m := chart{oddNum(r, most), oddNum(r, most), in(1, 0), oddNum(r, most), r.Intn(2) == 0}
		if r.Intn(3) == 0 {
			m.c, m.d = in(0, 0), in(1, 0)
		}
		if !m.flat() {
			return m
		}
	}
}
