package invert

import (
	"iter"
	"slices"

	"tracery/api"
	"tracery/circ"
	"tracery/mob"
	"tracery/sphere"
)

// Chain answers the map that turns over the first circle, then over the second
// one, and so on.
func Chain(l ...api.Circle) (api.Mob, api.Errno) {
	if e := listed(l); e != api.OK {
		return api.Mob{}, e
	}
	out, e := mob.One(), api.OK
	for _, c := range l {
		// The first ones are told each time, since it is they that may be refused.
		if out, e = formOf(c).behind(out); e != api.OK {
			return api.Mob{}, e
		}
	}
	return out, api.OK
}

// Walk goes over where p is behind the first 0, 1, 2 turnings, up to all.
func Walk(p api.Point, l ...api.Circle) (iter.Seq2[int, api.Point], api.Errno) {
	e := listed(l)
	switch {
	case !sphere.May(p):
		return nil, api.ErrArg
	case e != api.OK:
		return nil, e
	}
	kept := slices.Clone(l) // the list may be another one by the time it is gone over
	return walk(p, len(kept), func(k int) form { return formOf(kept[k]) }), api.OK
}

// Bounce answers where p is behind n turnings, over c and d in turn.
func Bounce(c, d api.Circle, p api.Point, n int) (api.Point, api.Errno) {
	f, e := taken(c)
	g, wrong := taken(d)
	if e != api.OK || wrong != api.OK || !sphere.May(p) || n < 0 || n > api.MaxPower {
		return api.Point{}, api.ErrArg
	}
	both := [2]form{f, g}
	for k, at := range walk(p, n, func(k int) form { return both[k%2] }) {
		if k == n {
			return at, api.OK
		}
	}
	return api.Point{}, api.ErrBig // as nothing else ends a walk early
}

// walk goes over where p is behind 0 to n turnings, up to what is too big. Of k
// turnings that are done next tells the one behind them.
func walk(p api.Point, n int, next func(k int) form) iter.Seq2[int, api.Point] {
	return func(yield func(int, api.Point) bool) {
		// Where it stands is kept in here, so that each range begins anew.
		at, e := p, api.OK
		for k := 0; yield(k, at) && k < n; k++ {
			if at, e = next(k).point(at); e != api.OK {
				return
			}
		}
	}
}

// listed tells what is wrong with a list of circles. One that may not be is told
// ahead of a list that is too long.
func listed(l []api.Circle) api.Errno {
	for _, c := range l {
		if e := circ.Check(c); e != api.OK {
			return e
		}
	}
	if len(l) > api.MaxList {
		return api.ErrLong
	}
	return api.OK
}
