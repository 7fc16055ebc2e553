package sphere

import (
	"slices"

	"tracery/api"
)

// Alike answers the places of two points that are the same.
func Alike(l ...api.Point) (int, int, api.Errno) {
	if e := listed(l...); e != api.OK {
		return 0, 0, e
	}
	i, j, e := 0, 0, api.ErrNone
	// The place of each point where it stands first: to hold each against all
	// ahead of it would cost far more.
	first := make(map[api.Point]int, len(l))
points:
	for at, p := range l {
		switch place, again := first[p]; {
		case again:
			i, j, e = place, at, api.OK
			break points
		default:
			first[p] = at
		}
	}
	return i, j, e
}

// Sort answers the points rising, each once.
func Sort(l ...api.Point) ([]api.Point, api.Errno) {
	if e := listed(l...); e != api.OK {
		return nil, e
	}
	ranks := make([]rank, 0, len(l))
	for _, p := range l {
		ranks = append(ranks, rankOf(p))
	}
	slices.SortFunc(ranks, rank.cmp)
	rising := make([]api.Point, 0, len(l))
	for at, r := range ranks {
		if at == 0 || r.point != ranks[at-1].point {
			rising = append(rising, r.point)
		}
	}
	return rising, api.OK
}

// rank is a point, and its parts as they are held against others'. It is made
// once a point, since to ask each time whether a number may be costs more than
// all comparisons.
type rank struct {
	point  api.Point
	re, im ratio
}

// rankOf is for points that may be.
func rankOf(p api.Point) rank {
	if p.Inf {
		return rank{point: p, re: beyond(), im: beyond()}
	}
	return rank{point: p, re: ratioOf(p.Z.Re), im: ratioOf(p.Z.Im)}
}

func (r rank) cmp(s rank) int {
	if order := r.re.cmp(s.re); order != 0 {
		return order
	}
	return r.im.cmp(s.im)
}
