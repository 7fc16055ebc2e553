package mirrors

import (
	"iter"

	"tracery/api"
)

// home is told where other points have the number of a mirror.
const home = 0

// Behind answers the number of the first mirror behind which p is.
func (m *Mirrors) Behind(p api.Point) (int, api.Errno) {
	if !m.there() {
		return 0, api.ErrNil
	}
	if e := checkPoint(p); e != api.OK {
		return 0, e
	}
	return firstHiding(m.list, p), api.OK
}

// Bring answers where p is brought home, and over which mirrors it is turned.
func (m *Mirrors) Bring(p api.Point, most int) (api.Point, []int, api.Errno) {
	if e := m.checkWay(p, most); e != api.OK {
		return api.Point{}, nil, e
	}
	word := []int{}
	for k, at := range way(m.list, p) {
		if k == home {
			return at, word, api.OK
		}
		// It takes a turning more, whatever that comes to.
		if len(word) == most {
			return api.Point{}, nil, api.ErrMany
		}
		word = append(word, k)
	}
	return api.Point{}, nil, api.ErrBig // as nothing else ends a way ahead of home
}

// Steps goes over the points on the way home, p first.
func (m *Mirrors) Steps(p api.Point, most int) (iter.Seq2[int, api.Point], api.Errno) {
	if e := m.checkWay(p, most); e != api.OK {
		return nil, e
	}
	all := way(m.list, p)
	return func(yield func(int, api.Point) bool) {
		n := 0 // kept in here, so that each range begins anew
		for _, at := range all {
			if !yield(n, at) || n == most {
				return
			}
			n++
		}
	}, api.OK
}

func (m *Mirrors) checkWay(p api.Point, most int) api.Errno {
	if e := m.checkMost(most); e != api.OK {
		return e
	}
	return checkPoint(p)
}

// firstHiding is for points that may be.
func firstHiding(l []mirror, p api.Point) int {
	for k, x := range l {
		if x.hides(p) {
			return k + 1
		}
	}
	return home
}

// way goes over the points on the way home, each with the number of the mirror
// over which it is turned next. It ends at home, or ahead of a point that is too
// big; it need not end.
func way(l []mirror, p api.Point) iter.Seq2[int, api.Point] {
	return func(yield func(int, api.Point) bool) {
		at, e := p, api.OK
		for {
			k := firstHiding(l, at)
			if !yield(k, at) || k == home {
				return
			}
			if at, e = l[k-1].point(at); e != api.OK {
				return
			}
		}
	}
}
