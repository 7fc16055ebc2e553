package flips

import (
	"slices"

	"tracery/api"
	"tracery/gauss"
	"tracery/mob"
	"tracery/sphere"
)

// Row answers the row flipped.
func Row(points []api.Point, labels []api.Gauss, by api.Gauss, first api.Point) ([]api.Point, api.Errno) {
	if !sphere.May(first) {
		return nil, api.ErrArg
	}
	if e := check(points, labels, by); e != api.OK {
		return nil, e
	}
	return flipped(points, labels, by, first)
}

// Step answers the map that sends each s to the last corner of p, q and s.
func Step(p, q api.Point, ratio api.Gauss) (api.Mob, api.Errno) {
	// A row of one square; 1 goes with its label, if that is not 1.
	return Carry([]api.Point{p, q}, []api.Gauss{ratio}, gauss.Int(1, 0))
}

// Carry answers the map that sends first points to the last ones of the row
// flipped.
func Carry(points []api.Point, labels []api.Gauss, by api.Gauss) (api.Mob, api.Errno) {
	if e := check(points, labels, by); e != api.OK {
		return api.Mob{}, e
	}
	for k := range labels {
		if points[k] == points[k+1] {
			return api.Mob{}, api.ErrNet
		}
	}
	m, e := mob.One(), api.OK
	for k, a := range labels {
		// What the steps make is told each time, since it is that which may be
		// refused; a step by itself may have any length.
		if m, e = onward(m, stepOf(points[k], points[k+1], a, by)); e != api.OK {
			return api.Mob{}, e
		}
	}
	return m, api.OK
}

// check tells what is wrong with a row and a number.
func check(points []api.Point, labels []api.Gauss, by api.Gauss) api.Errno {
	not := func(z api.Gauss) bool { return !isLabel(z) }
	none := func(p api.Point) bool { return !sphere.May(p) }
	switch {
	case len(points) != len(labels)+1, !goes(by, labels), slices.ContainsFunc(labels, not), slices.ContainsFunc(points, none):
		return api.ErrArg
	case len(points) > api.MaxList:
		return api.ErrLong
	}
	return api.OK
}

// flipped is for rows, numbers that go with them, and points that may be.
func flipped(points []api.Point, labels []api.Gauss, by api.Gauss, first api.Point) ([]api.Point, api.Errno) {
	row, e := append(make([]api.Point, 0, len(points)), first), api.OK
squares:
	for k, a := range labels {
		p, q, s := points[k], points[k+1], row[k]
		switch {
		case p == q, q == s, s == p:
			e = api.ErrNet
			break squares
		}
		var r api.Point
		if r, e = stepOf(p, q, a, by)(pairOf(s)).told(); e != api.OK {
			break squares
		}
		row = append(row, r)
	}
	if e != api.OK {
		return nil, e
	}
	return row, api.OK
}
