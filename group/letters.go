package group

import (
	"tracery/api"
	"tracery/mob"
	"tracery/words"
)

// move is what a letter stands for. An inverse may be too big to be told: then
// there is no map here.
type move struct {
	m   api.Mob
	big bool
}

func back(m api.Mob) move {
	m, e := mob.Inverse(m)
	return move{m: m, big: e != api.OK}
}

// placeOf answers where a letter stands in the order 1, -1, 2, -2, and so on.
func placeOf(letter int) int {
	place := letter
	if letter < 0 {
		place *= -1
	}
	place--
	place <<= 1
	if letter < 0 {
		place |= 1
	}
	return place
}

// letterAt is the way back from placeOf.
func letterAt(place int) int {
	letter := place
	letter >>= 1
	letter++
	if place&1 == 1 {
		letter *= -1
	}
	return letter
}

func (g *Group) has(letter int) bool {
	return letter != 0 && -g.Letters() <= letter && letter <= g.Letters()
}

func (g *Group) checkWord(word []int) api.Errno {
	if !g.there() {
		return api.ErrNil
	}
	for _, letter := range word {
		if !g.has(letter) {
			return api.ErrArg
		}
	}
	return words.Check(word...)
}
