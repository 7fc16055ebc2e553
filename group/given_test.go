package group_test

import (
	"math"
	"math/big"

	"tracery/api"
	"tracery/group"
)

// quarter and third, done 4 times and 3 times, move nothing; eighth turns.
func quarter() chart { return stretch(in(0, 1)) }

func third() chart { return charted(0, -1, 1, 1) }

func eighth() chart { return stretch(in(1, 1)).behind(swap()).turned() }

func shift() chart { return slide(in(1, 0)) }

// named is a group by its maps; deep is how far all its words can be gone over.
type named struct {
	name string
	maps []chart
	deep int
}

// groups are some of all kinds: whole ones, ones without end, ones whose maps
// come twice, move nothing or undo each other.
func groups() []named {
	half := flat(big.NewRat(1, 2))
	return []named{
		{"of no map", nil, 4},
		{"of what moves nothing", []chart{still()}, 4},
		{"of a quarter turn", []chart{quarter()}, 6},
		{"of a third", []chart{third()}, 6},
		{"of a sixth", []chart{charted(1, -1, 1, 2)}, 7},
		{"of an eighth that turns", []chart{eighth()}, 8},
		{"of a shift", []chart{shift()}, 7},
		{"of a shift and its inverse", []chart{shift(), shift().inverse()}, 5},
		{"of shifts and nothing", []chart{still(), shift(), shift()}, 4},
		{"of shifts that overlap", []chart{slide(in(2, 0)), slide(in(3, 0))}, 5},
		{"of a swap and a shift", []chart{swap(), shift()}, 5},
		{"of a shift and a swap that turns", []chart{shift(), swap().turned()}, 5},
		{"of a square's turns", []chart{quarter(), bar()}, 5},
		{"of a ball's eight faces", []chart{quarter(), charted(1, 1, -1, 1)}, 6},
		{"of these, turned over, too", []chart{bar(), quarter(), charted(1, 1, -1, 1)}, 4},
		{"of a comb", []chart{shift(), stretch(in(-1, 0))}, 5},
		{"of a net", []chart{slide(in(1, 0)), slide(in(0, 1))}, 5},
		{"of two that are free", []chart{slide(in(2, 0)), charted(1, 0, 2, 1)}, 5},
		{"of halves", []chart{stretch(half), slide(num{big.NewRat(2, 3), big.NewRat(-1, 5)})}, 5},
		{"of four", []chart{quarter(), shift(), swap(), bar()}, 3},
	}
}

// oneWay is a map whose inverse is too big.
func oneWay() chart { return stretch(num{ofInt(top()), ofInt(top())}) }

// tall is a map as long as may be, whose inverse is no longer.
func tall() chart { return stretch(flat(ofInt(top()))) }

// wrongFracs are fractions that may not be.
func wrongFracs() []api.Frac {
	one := small(1)
	return []api.Frac{
		{},
		{Num: one},
		{Num: small(0), Den: small(2)},
		{Num: one, Den: small(-2)},
		{Num: small(6), Den: small(4)},
		{Num: whole(past()), Den: one},
		{Num: one, Den: whole(past())},
		{Num: api.Whole{Neg: true}, Den: one},
		{Num: api.Whole{Mag: "\x00\x01"}, Den: one},
	}
}

// wrongMaps are maps that may not be: for a number, for their form, for being
// flat.
func wrongMaps() []api.Mob {
	l := []api.Mob{{}, {Turns: true}}
	for _, x := range wrongFracs() {
		for _, m := range []api.Mob{shift().mob(), swap().mob(), bar().mob()} {
			a, b, c, d := m, m, m, m
			a.A.Re, b.B.Im, c.C.Re, d.D.Im = x, x, x, x
			l = append(l, a, b, c, d)
		}
	}
	for _, n := range [][4]int64{{2, 0, 0, 2}, {1, 0, 0, -1}, {0, 2, 2, 4}, {1, 0, 2, 1}, {0, 0, 0, 0}, {0, 5, 0, 1}, {1, 1, 0, 0}, {2, 6, 1, 3}} {
		m := chart{in(n[0], 0), in(n[1], 0), in(n[2], 0), in(n[3], 0), false}
		l = append(l, m.mob(), m.turned().mob())
	}
	return l
}

// wrongPoints are points that may not be: such numbers, and infinity beside any.
func wrongPoints() []api.Point {
	l := []api.Point{{}, {Inf: true, Z: in(0, 0).gauss()}, {Inf: true, Z: api.Gauss{Re: over(0, 1)}}}
	for _, x := range wrongFracs() {
		l = append(l, api.Point{Z: api.Gauss{Re: x, Im: over(0, 1)}}, api.Point{Z: api.Gauss{Re: over(1, 1), Im: x}})
	}
	return l
}

// wrongLetters are none of a group of n maps.
func wrongLetters(n int) []int {
	return []int{0, n + 1, -n - 1, api.MaxMaps + 1, math.MaxInt, math.MinInt, math.MinInt + 1}
}

// wrongNumbers are those of no element, where n are told.
func wrongNumbers(n int) []int {
	return []int{-1, n, n + 1, math.MaxInt, math.MinInt}
}

// nothings are groups that are not there.
func nothings() map[string]*group.Group {
	refused, _ := group.New(api.Mob{})
	return map[string]*group.Group{"nil": nil, "zero": {}, "new": new(group.Group), "refused": refused}
}
