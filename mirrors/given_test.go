package mirrors_test

import (
	"math"
	"math/big"
	"strings"

	"tracery/api"
	"tracery/mirrors"
)

// wrongFracs are fractions that may not be.
func wrongFracs() []api.Frac {
	one := small(1)
	return []api.Frac{
		{},
		{Num: one},
		{Num: small(0), Den: small(2)},
		{Num: one, Den: small(-2)},
		{Num: small(6), Den: small(4)},
		{Num: whole(past()), Den: one},
		{Num: one, Den: whole(past())},
		{Num: api.Whole{Neg: true}, Den: one},
		{Num: api.Whole{Mag: "\x00\x01"}, Den: one},
		{Num: api.Whole{Mag: strings.Repeat("\x7f", api.MaxWide+1)}, Den: one},
	}
}

// wrongPoints are points that may not be: such numbers, and infinity beside any.
func wrongPoints() []api.Point {
	l := []api.Point{{}, {Inf: true, Z: in(0, 0).gauss()}, {Inf: true, Z: in(0, 1).gauss()}, {Inf: true, Z: api.Gauss{Im: over(1, 1)}}}
	for _, x := range wrongFracs() {
		l = append(l, api.Point{Z: api.Gauss{Re: x, Im: over(1, 1)}}, api.Point{Z: api.Gauss{Re: over(0, 1), Im: x}})
	}
	return l
}

// wrongCircles are circles that may not be: not in their one form, of no power,
// of wrong numbers.
func wrongCircles() []api.Circle {
	l := []api.Circle{{}}
	for _, k := range []ring{
		ringed(2, 0, 0, -2), ringed(-1, 0, 0, 1), ringed(0, 2, 0, 0), ringed(0, -1, 0, 0), ringed(0, 0, 2, 0), ringed(0, 0, -1, 0),
		ringed(1, 0, 0, 1), ringed(1, 0, 0, 0), ringed(1, 1, 0, 1), ringed(0, 0, 0, 0), ringed(0, 0, 0, 5), {rat(1, 2), in(1, 0), rat(0, 1)},
	} {
		l = append(l, k.circle())
	}
	for _, x := range wrongFracs() {
		a, re, im, c := unit().circle(), unit().circle(), beside(rat(1, 2)).circle(), level(rat(0, 1)).circle()
		a.A, re.B.Re, im.B.Im, c.C = x, x, x, x
		l = append(l, a, re, im, c)
	}
	return l
}

// wrongSides are none.
func wrongSides() []int {
	return []int{0, 2, -2, 3, 1 << 32, 1<<32 + 1, -1<<32 - 1, math.MaxInt, math.MinInt}
}

// wrongNumbers are of no mirror, where there are n.
func wrongNumbers(n int) []int {
	return []int{0, -1, -n, n + 1, api.MaxMaps + 1, math.MaxInt, math.MinInt}
}

// wrongLetters are of no mirror, where there are n.
func wrongLetters(n int) []int {
	return []int{0, n + 1, -n - 1, api.MaxMaps + 1, -api.MaxMaps - 1, math.MaxInt, math.MinInt, math.MinInt + 1}
}

// wrongMosts are bounds that may not be.
func wrongMosts() []int {
	return []int{-1, -7, math.MinInt, api.MaxList + 1, 1 << 32, math.MaxInt}
}

// nothings are mirrors that are not there.
func nothings() map[string]*mirrors.Mirrors {
	refused, _ := mirrors.New([]api.Circle{{}}, []int{1})
	return map[string]*mirrors.Mirrors{"nil": nil, "zero": {}, "new": new(mirrors.Mirrors), "refused": refused}
}

// modular is Modular by the chapter's words.
func modular() glass {
	return glass{[]ring{beside(rat(0, 1)), beside(rat(1, 2)), unit()}, []int{1, -1, 1}}
}

// steep is a line whose turning is too big, though its own numbers are not.
func steep() ring { return ring{new(big.Rat), num{rat(1, 1), ofInt(twos(5000))}, new(big.Rat)} }

// rows are n lines upright on the real one, from x on, each by d further.
func rows(n int, x, d *big.Rat) glass {
	g := glass{}
	for range n {
		g.rings, g.sides = append(g.rings, beside(x)), append(g.sides, 1)
		x = plus(x, d)
	}
	return g
}

// loose are n circles that lie apart, each outside of the others: no two words
// of their turnings do the same, unless they must.
func loose(n int) glass {
	g := glass{}
	for k := range n {
		g.rings, g.sides = append(g.rings, about(in(int64(3*k), 0), rat(1, 1))), append(g.sides, 1)
	}
	return g
}

// with answers the mirrors with one more.
func (g glass) with(k ring, side int) glass {
	return glass{append(g.rings[:len(g.rings):len(g.rings)], k), append(g.sides[:len(g.sides):len(g.sides)], side)}
}

// seen answers the mirrors as m shows them, the sides as they were.
func (g glass) seen(m chart) glass {
	h := glass{sides: g.sides}
	for _, k := range g.rings {
		h.rings = append(h.rings, m.image(k))
	}
	return h
}

// named are mirrors by a name; deep is how far all their words are gone over.
type named struct {
	name string
	glass
	deep int
}

// pair is two mirrors.
func pair(k, l ring) glass { return glass{[]ring{k, l}, []int{1, -1}} }

// glasses are some of all kinds: whose group ends and goes on for ever, whose
// mirrors come twice, touch, cross at each angle that there is, lie apart.
func glasses() []named {
	real, up := level(new(big.Rat)), beside(new(big.Rat))
	slant := ringed(0, 1, 1, 0)
	threes := about(in(0, 0), rat(3, 1))
	return []named{
		{"no mirror", glass{}, 4},
		{"a line", glass{[]ring{up}, []int{1}}, 4},
		{"a circle from within", glass{[]ring{unit()}, []int{-1}}, 4},
		{"a slanting line", glass{[]ring{{new(big.Rat), num{rat(1, 1), rat(3, 7)}, rat(1, 2)}}, []int{-1}}, 4},
		{"the modular ones", modular(), 7},
		{"the same one twice", glass{[]ring{unit(), unit()}, []int{1, 1}}, 5},
		{"both sides of one", pair(unit(), unit()), 5},
		{"both sides of a line", pair(up, up), 5},
		{"the same ones among others", glass{[]ring{up, unit(), up, real, unit()}, []int{1, 1, 1, -1, -1}}, 5},
		{"lines that touch", pair(up, beside(rat(1, 2))), 7},
		{"lines that look away", glass{[]ring{up, beside(rat(1, 3))}, []int{-1, 1}}, 6},
		{"circles that touch", pair(unit(), about(in(2, 0), rat(1, 1))), 6},
		{"circles that touch from within", pair(about(in(1, 0), rat(1, 1)), about(in(2, 0), rat(4, 1))), 6},
		{"at right angles", pair(real, unit()), 5},
		{"at a third", pair(unit(), beside(rat(1, 2))), 7},
		{"at a quarter", pair(real, slant), 9},
		{"at a sixth", pair(beside(rat(3, 2)), threes), 13},
		{"at no such angle", pair(real, ringed(0, 1, 2, 0)), 5},
		{"apart, one in the other", pair(unit(), about(in(0, 0), rat(4, 1))), 6},
		{"apart, side by side", pair(unit(), about(in(4, 1), rat(2, 1))), 5},
		{"a square's triangles", glass{[]ring{real, slant, beside(rat(1, 1))}, []int{-1, 1, -1}}, 6},
		{"a cube's", glass{[]ring{slant, ringed(1, 0, 1, -1), unit()}, []int{1, -1, 1}}, 10},
		{"three that touch", glass{[]ring{up, beside(rat(1, 1)), about(parts(1, 2, 0, 1), rat(1, 4))}, []int{1, -1, 1}}, 5},
		{"rows", rows(5, rat(-1, 3), rat(1, 2)), 5},
		{"rows and a line across", rows(2, rat(0, 1), rat(1, 1)).with(real, -1), 6},
		{"loose ones", loose(4), 3},
		{"what a map makes of the modular ones", modular().seen(chart{parts(2, 3, 1, 1), in(1, 0), in(0, 1), parts(1, 1, -1, 5), true}), 4},
	}
}

// spots are points of all kinds, on mirrors among them.
func spots() []spot {
	l := []spot{far(), at(parts(1, 2, 0, 1)), at(parts(-1, 3, 2, 7)), at(parts(3, 5, 4, 5)), at(parts(22, 7, 1, 9)), at(parts(1, 1000, 1, 997)), on(40, 1), on(0, -9)}
	for re := range int64(5) {
		for im := range int64(4) {
			l = append(l, on(re-2, im-1))
		}
	}
	return l
}
