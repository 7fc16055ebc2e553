package cross

import (
	"iter"
	"slices"

	"tracery/api"
	"tracery/sphere"
)

// Round tells whether four points lie on one circle or line.
func Round(a, b, c, d api.Point) (bool, api.Errno) {
	four := [4]api.Point{a, b, c, d}
	if check(four) == api.ErrArg {
		return false, api.ErrArg
	}
	// Where two are the same the ratio is 0, 1 or infinity, and where three
	// are it is two noughts: these are the same as their conjugates, too.
	ratio := rowOf(four).ratio()
	return ratio.same(ratio.conj()), api.OK
}

// Turns answers all cross ratios of four points, in whatever order they stand.
func Turns(a, b, c, d api.Point) ([]api.Point, api.Errno) {
	four := [4]api.Point{a, b, c, d}
	if e := check(four); e != api.OK {
		return nil, e
	}
	var known []pair
	var told []api.Point
	for ordered := range orders(rowOf(four)) {
		ratio := ordered.ratio()
		// Orders in which the points changed places two by two have the very
		// same numbers: to find these again costs far less than to tell them.
		if slices.ContainsFunc(known, ratio.equal) {
			continue
		}
		p, e := ratio.told()
		if e != api.OK {
			return nil, e
		}
		known, told = append(known, ratio), append(told, p)
	}
	slices.SortFunc(told, rising)
	return slices.Compact(told), api.OK
}

// Alike tells whether a map that does not turn takes four points to four, each
// to the one at its place, and whether one that turns does.
func Alike(p, q [4]api.Point) (bool, bool, api.Errno) {
	if e := check(p, q); e != api.OK {
		return false, false, e
	}
	// The ratios alone do not tell which points are the same: a and b, or c
	// and d, are so where it is 0.
	if firsts(p) != firsts(q) {
		return false, false, api.OK
	}
	from, to := rowOf(p).ratio(), rowOf(q).ratio()
	// What moves nothing takes a row to itself, however long the ratio is.
	return p == q || from.same(to), from.conj().same(to), api.OK
}

// check tells what is wrong with rows of four points. A point that may not be
// is told ahead of what is the same, in whichever row it stands.
func check(rows ...[4]api.Point) api.Errno {
	e := api.OK
points:
	for _, four := range rows {
		for _, p := range four {
			if !sphere.May(p) {
				e = api.ErrArg
				break points
			}
		}
		if threeSame(four) {
			e = api.ErrSame
		}
	}
	return e
}

func threeSame(four [4]api.Point) bool {
	var counts [4]int
	for _, place := range firsts(four) {
		counts[place]++
	}
	return slices.Max(counts[:]) >= 3
}

// firsts answers for each place the first one at which the same point stands:
// two rows have theirs alike just if the same places are the same in both.
func firsts(four [4]api.Point) [4]int {
	var places [4]int
	for at, p := range four {
		places[at] = slices.Index(four[:], p)
	}
	return places
}

// orders goes over the row in its 24 orders.
func orders(four row) iter.Seq[row] {
	return func(yield func(row) bool) {
		for n := range 24 {
			if !yield(four.ordered(n)) {
				return
			}
		}
	}
}

// ordered answers the row in the n-th order. At each place n tells which of
// those that are left stands there: of 4, of 3, of 2.
func (l row) ordered(n int) row {
	for k := range l {
		left := len(l) - k
		at := k + n%left
		l[k], l[at] = l[at], l[k]
		n /= left
	}
	return l
}

// rising is for points that may be.
func rising(p, q api.Point) int {
	order, _ := sphere.Cmp(p, q)
	return order
}
