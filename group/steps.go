package group

import (
	"tracery/api"
	"tracery/mob"
)

// none is a Row's number where there is no Step.
const none = -1

// Step answers the element that the first word of i and a letter behind it make.
func (g *Group) Step(i, letter int) (int, api.Errno) {
	if g.there() && !g.has(letter) {
		return 0, api.ErrArg
	}
	if e := g.checkNumber(i); e != api.OK {
		return 0, e
	}
	to := g.step(i, placeOf(letter))
	if to == none {
		return 0, api.ErrNone
	}
	return to, api.OK
}

// Row answers the Steps of i by all letters, -1 where there is none.
func (g *Group) Row(i int) ([]int, api.Errno) {
	if e := g.checkNumber(i); e != api.OK {
		return nil, e
	}
	row := make([]int, len(g.moves))
	for place := range row {
		row[place] = g.step(i, place)
	}
	return row, api.OK
}

// Whole tells whether every element of the group is told.
func (g *Group) Whole() bool {
	if !g.there() {
		return false
	}
	// From those that are less deep each letter leads to one that is told.
	for i := g.told.begin(g.depth); i < len(g.told); i++ {
		for place := range g.moves {
			if g.step(i, place) == none {
				return false
			}
		}
	}
	return true
}

// Of answers the word's map.
func (g *Group) Of(word ...int) (api.Mob, api.Errno) {
	if e := g.checkWord(word); e != api.OK {
		return api.Mob{}, e
	}
	l := make([]api.Mob, len(word))
	for k, letter := range word {
		x := g.moves[placeOf(letter)]
		if x.big {
			return api.Mob{}, api.ErrBig
		}
		l[k] = x.m
	}
	return mob.Compose(l...)
}

// First answers the first word of the word's element.
func (g *Group) First(word ...int) ([]int, api.Errno) {
	if e := g.checkWord(word); e != api.OK {
		return nil, e
	}
	i := 0
	for _, letter := range word {
		if i = g.step(i, placeOf(letter)); i == none {
			return nil, api.ErrNone
		}
	}
	return g.told.word(i), api.OK
}

func (g *Group) step(i, place int) int {
	m, e := g.behind(i, place)
	if e != api.OK {
		return none
	}
	if to, ok := g.numbers[m]; ok {
		return to
	}
	return none
}

// behind answers the map of the first word of i and a letter behind it. A
// letter that is too big is itself of depth 1, so no group that has one grows:
// i is 0 then, and it is the letter's own map that is refused.
func (g *Group) behind(i, place int) (api.Mob, api.Errno) {
	if g.moves[place].big {
		return api.Mob{}, api.ErrBig
	}
	return mob.Compose(g.told[i].m, g.moves[place].m)
}
