package grid

import (
	"tracery/api"
	"tracery/circ"
	"tracery/cross"
)

// Corners answers the four corners of the square i, j.
func (g *Grid) Corners(i, j int) ([4]api.Point, api.Errno) {
	switch {
	case !g.there():
		return [4]api.Point{}, api.ErrNil
	case i < 0, i >= g.w, j < 0, j >= g.h:
		return [4]api.Point{}, api.ErrNone
	}
	low, high := g.row(j), g.row(j+1)
	return [4]api.Point{low[i], low[i+1], high[i+1], high[i]}, api.OK
}

// Ratio answers the cross ratio of the square's corners.
func (g *Grid) Ratio(i, j int) (api.Point, api.Errno) {
	l, e := g.Corners(i, j)
	if e != api.OK {
		return api.Point{}, e
	}
	return cross.Ratio(l[0], l[1], l[2], l[3])
}

// Even answers the ratio that all squares have, if there is one.
func (g *Grid) Even() (api.Point, bool) {
	ratio, e := g.Ratio(0, 0)
	if e != api.OK {
		return api.Point{}, false
	}
	// The others' ratios are held against the first one, not told: to divide
	// and to find lowest terms costs far more.
	wanted, pairs := pairOf(ratio), g.pairing()
	low, even := pairs(0), true
squares:
	for j := range g.h {
		high := pairs(j + 1)
		for i := range g.w {
			if !ratioOf(low[i], low[i+1], high[i+1], high[i]).same(wanted) {
				even = false
				break squares
			}
		}
		low = high
	}
	if !even {
		return api.Point{}, false
	}
	return ratio, true
}

// Circle answers the circle on which all corners of the square are.
func (g *Grid) Circle(i, j int) (api.Circle, api.Errno) {
	l, e := g.Corners(i, j)
	if e != api.OK {
		return api.Circle{}, e
	}
	// Together refuses a circle through three of them that is too big ahead of
	// asking where the last one is.
	if round, _ := cross.Round(l[0], l[1], l[2], l[3]); !round {
		return api.Circle{}, api.ErrNone
	}
	c, _, e := circ.Together(l[:]...)
	return c, e
}

// pairing answers what takes a row of points as pairs.
func (g *Grid) pairing() func(j int) []pair {
	return func(j int) []pair {
		l := make([]pair, 0, g.w+1)
		for _, p := range g.row(j) {
			l = append(l, pairOf(p))
		}
		return l
	}
}
