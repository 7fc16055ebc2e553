package tiles

import (
	"iter"
	"slices"

	"tracery/api"
	"tracery/frac"
	"tracery/gauss"
	"tracery/mob"
	"tracery/sphere"
	"tracery/words"
)

// Whole is the whole matrices' tiling.
func Whole() api.Tiling {
	zero, one, less := gauss.Int(0, 0), gauss.Int(1, 0), gauss.Int(-1, 0)
	return api.Tiling{
		Sides: []api.Side{
			{Circle: api.Circle{A: frac.Int(0), B: one, C: frac.Int(-1)}, Sign: -1},
			{Circle: api.Circle{A: frac.Int(0), B: one, C: frac.Int(1)}, Sign: 1, Edge: true},
			{Circle: api.Circle{A: frac.Int(1), B: zero, C: frac.Int(-1)}, Sign: 1, Edge: true},
		},
		Maps: []api.Mob{
			{A: one, B: less, C: zero, D: one},
			{A: one, B: one, C: zero, D: one},
			{A: zero, B: less, C: one, D: zero},
		},
	}
}

// Bring brings a point home.
func Bring(t api.Tiling, p api.Point, most int) (api.Homed, api.Errno) {
	switch {
	case !tilingMay(t), !sphere.May(p), most < 0:
		return api.Homed{}, api.ErrArg
	case most > api.MaxList:
		return api.Homed{}, api.ErrLong
	}
	r, h := regionOf(t.Sides), api.Homed{Point: p, Map: mob.One()}
	for k, next := range steps(r, t.Maps, p) {
		if len(h.Way) == most {
			return api.Homed{}, api.ErrSteps
		}
		m, e := mob.Compose(t.Maps[k], h.Map)
		if e != api.OK {
			return api.Homed{}, e
		}
		h.Point, h.Map, h.Way = next, m, append(h.Way, k+1)
	}
	// The steps end at home, ahead of a point that is too big, or behind
	// MaxList of them.
	switch {
	case r.beyond(lightOf(h.Point)) == none:
		return h, api.OK
	case len(h.Way) == most:
		return api.Homed{}, api.ErrSteps
	}
	return api.Homed{}, api.ErrBig
}

// Steps goes over the steps.
func Steps(t api.Tiling, p api.Point) iter.Seq2[int, api.Point] {
	if !tilingMay(t) || !sphere.May(p) {
		return func(func(int, api.Point) bool) {}
	}
	// The list may be another one by the time the steps are gone over.
	return steps(regionOf(t.Sides), slices.Clone(t.Maps), p)
}

// Tile tells the tile to which a way leads.
func Tile(t api.Tiling, way ...int) ([]api.Side, api.Errno) {
	if !tilingMay(t) || !numbersSides(way, len(t.Sides)) {
		return nil, api.ErrArg
	}
	if e := words.Check(way...); e != api.OK {
		return nil, e
	}
	short, _ := words.Short(renamed(t.Maps, way)...)
	return regionOf(t.Sides).pulled(pulls(t.Maps, short)...)
}

// steps is for what may be.
func steps(r region, maps []api.Mob, p api.Point) iter.Seq2[int, api.Point] {
	return func(yield func(int, api.Point) bool) {
		at, e := p, api.OK // kept in here, so that each range begins anew
		for range api.MaxList {
			k := r.beyond(lightOf(at))
			if k == none {
				return
			}
			if at, e = mob.At(maps[k], at); e != api.OK || !yield(k, at) {
				return
			}
		}
	}
}

func tilingMay(t api.Tiling) bool {
	if len(t.Sides) == 0 || len(t.Sides) != len(t.Maps) || Check(t.Sides...) != api.OK {
		return false
	}
	for _, m := range t.Maps {
		if mob.Check(m) != api.OK {
			return false
		}
	}
	return true
}
