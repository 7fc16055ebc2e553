package group

import (
	"tracery/api"
)

// Grow tells the elements of depth n at most.
func (g *Group) Grow(n int) api.Errno {
	switch {
	case !g.there():
		return api.ErrNil
	case n < 0 || n > api.MaxList:
		return api.ErrArg
	case n <= g.depth:
		return api.OK
	}
	before := len(g.told)
	if e := g.reach(n); e != api.OK {
		g.forget(before)
		return e
	}
	g.depth = n
	return api.OK
}

// reach tells one element behind the other, up to the depth n or to the first
// one that is refused.
func (g *Group) reach(n int) api.Errno {
	refused := api.OK
grow:
	for i := g.told.begin(g.depth); i < len(g.told) && g.told[i].depth < n; i++ {
		for place := range g.moves {
			// What is left of a first word without its first letter is one, too:
			// where it is none, this word's map was met already.
			rest, ok := g.told.rest(i, place)
			if !ok {
				continue
			}
			m, e := g.behind(i, place)
			if _, met := g.numbers[m]; met {
				continue
			}
			if len(g.told) == api.MaxElems {
				e = api.ErrElems
			}
			if e != api.OK {
				refused = e
				break grow
			}
			g.tell(element{m: m, depth: g.told[i].depth + 1, from: i, place: place, rest: rest})
		}
	}
	return refused
}

// forget leaves the first n elements.
func (g *Group) forget(n int) {
	for i := n; i < len(g.told); i++ {
		delete(g.numbers, g.told[i].m)
	}
	clear(g.told[n:])
	g.told = g.told[:n]
}
