package grid

import (
	"tracery/api"
	"tracery/fmob"
	"tracery/mob"
	"tracery/near"
)

// Image answers the grid of the points to which the map sends these.
func (g *Grid) Image(m api.Mob) (*Grid, api.Errno) {
	if !g.there() {
		return nil, api.ErrNil
	}
	// All points in one list would be more than may be.
	return made(g.w, g.h, func(j int) ([]api.Point, api.Errno) { return mob.Images(m, g.row(j)...) })
}

// Turn answers the grid, turned by a quarter.
func (g *Grid) Turn() *Grid {
	if !g.there() {
		return nil
	}
	turned, _ := made(g.h, g.w, func(j int) ([]api.Point, api.Errno) {
		column := make([]api.Point, 0, g.h+1)
		for i := range g.h + 1 {
			column = append(column, g.row(i)[g.w-j])
		}
		return column, api.OK
	})
	return turned
}

// Part answers the grid of w by h squares, from the square i, j on.
func (g *Grid) Part(i, j, w, h int) (*Grid, api.Errno) {
	switch {
	case !g.there():
		return nil, api.ErrNil
	case w < 1, h < 1:
		return nil, api.ErrArg
	case i < 0, i > g.w-w, j < 0, j > g.h-h:
		return nil, api.ErrNone
	}
	return made(w, h, func(k int) ([]api.Point, api.Errno) { return g.row(j + k)[i:][:w+1], api.OK })
}

// Floats answers where the map sends each point, by floats.
func (g *Grid) Floats(m api.Mob) ([]api.FPoint, api.Errno) {
	if !g.there() {
		return nil, api.ErrNil
	}
	f, e := fmob.Of(m)
	if e != api.OK {
		return nil, e
	}
	images := make([]api.FPoint, 0, len(g.points))
	for _, p := range g.points {
		q, e := nearest(p)
		if e != api.OK {
			return nil, e
		}
		images = append(images, fmob.At(f, q))
	}
	return images, api.OK
}

func nearest(p api.Point) (api.FPoint, api.Errno) {
	if p.Inf {
		return api.FPoint{Inf: true}, api.OK
	}
	z, e := near.Complex(p.Z)
	return api.FPoint{Z: z}, e
}

// Map answers the map that does not turn and sends each point to that of o.
func (g *Grid) Map(o *Grid) (api.Mob, api.Errno) {
	switch {
	case !g.there(), !o.there():
		return api.Mob{}, api.ErrNil
	case !g.sameSize(o):
		return api.Mob{}, api.ErrNone
	}
	places, found := g.unlike()
	if !found {
		return api.Mob{}, api.ErrNone
	}
	from, to := g.taken(places), o.taken(places)
	m, e := mob.Of(from, to, false)
	// That the map is too big is told only where it sends all of them.
	if e == api.ErrTwins || !g.sent(o, carryOf(from, to)) {
		return api.Mob{}, api.ErrNone
	}
	return m, e
}

// unlike answers the places of the first point, of the first one that is unlike
// to it, and of the first one that is unlike to both.
func (g *Grid) unlike() (places [3]int, found bool) {
	count := 0
points:
	for k, p := range g.points {
		for _, place := range places[:count] {
			if p == g.points[place] {
				continue points
			}
		}
		places[count] = k
		if count++; count == len(places) {
			break points
		}
	}
	return places, count == len(places)
}

func (g *Grid) taken(places [3]int) [3]api.Point {
	return [3]api.Point{g.points[places[0]], g.points[places[1]], g.points[places[2]]}
}

// sent tells whether the map sends each point to that of o, a grid of the same
// size.
func (g *Grid) sent(o *Grid, c carry) bool {
	for k, p := range g.points {
		if !c.sends(pairOf(p), pairOf(o.points[k])) {
			return false
		}
	}
	return true
}
