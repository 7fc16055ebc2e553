package sphere_test

import (
	"math/big"
	"math/rand"
	"slices"
	"testing"

	"tracery/api"
	"tracery/sphere"
)

// many are unlike points, in no order, so many of them.
func many(count int) []api.Point {
	l := []api.Point{far().point()}
	for k := 1; k < count; k++ {
		n := int64(k*2741%count) - 1000
		l = append(l, at(big.NewRat(n, 7), big.NewRat(n*n%11, 3)).point())
	}
	return l
}

// long are unlike points whose parts are as long as may be, and that differ in
// the last digits alone.
func long(count int) []api.Point {
	var l []api.Point
	for k := range count {
		x := api.Frac{Num: more(top(), -int64(2*k+1)), Den: top()}
		if r := ratOf(x); fraction(r) != x {
			x = api.Frac{Num: more(top(), -int64(2*k+1)), Den: small(1)}
		}
		l = append(l, api.Point{Z: api.Gauss{Re: over(1, 3), Im: x}})
	}
	return l
}

// wantAlike goes by the promise's words, pair by pair.
func wantAlike(t *testing.T, l []api.Point) {
	t.Helper()
	i, j, e := sphere.Alike(l...)
	for second := range l {
		for first := range second {
			if l[first] == l[second] {
				wantPlaces(t, "two alike", i, j, e, first, second, api.OK)
				return
			}
		}
	}
	wantPlaces(t, "all unlike", i, j, e, 0, 0, api.ErrNone)
}

func TestAlike(t *testing.T) { // P7.2
	one, two := short(1, 0).point(), short(2, 0).point()
	i, j, e := sphere.Alike(one, two, one, two)
	wantPlaces(t, "1, 2, 1, 2", i, j, e, 0, 2, api.OK)
	i, j, e = sphere.Alike(one, two)
	wantPlaces(t, "1, 2", i, j, e, 0, 0, api.ErrNone)
	i, j, e = sphere.Alike()
	wantPlaces(t, "none", i, j, e, 0, 0, api.ErrNone)
	i, j, e = sphere.Alike([]api.Point{}...)
	wantPlaces(t, "an empty list", i, j, e, 0, 0, api.ErrNone)
	inf := far().point()
	i, j, e = sphere.Alike(one, inf, two, inf, inf)
	wantPlaces(t, "infinity twice", i, j, e, 1, 3, api.OK)
	// The later pair begins ahead of the one that ends first.
	i, j, e = sphere.Alike(one, two, two, one)
	wantPlaces(t, "1, 2, 2, 1", i, j, e, 1, 2, api.OK)
	r := rand.New(rand.NewSource(71))
	all := append(pointsOf(grid()), pointsOf(good())...)
	for range 2000 {
		var l []api.Point
		for range r.Intn(9) {
			l = append(l, all[r.Intn(len(all))])
		}
		wantAlike(t, l)
	}
	wantAlike(t, long(200))
}

// rising goes by the order's words.
func rising(l []spot) []api.Point {
	l = slices.Clone(l)
	slices.SortFunc(l, order)
	return slices.Compact(pointsOf(l))
}

func wantSorted(t *testing.T, l []spot) {
	t.Helper()
	got, e := sphere.Sort(pointsOf(l)...)
	if e != api.OK || !slices.Equal(got, rising(l)) {
		t.Fatalf("%d points sorted: %d, %v", len(l), len(got), e)
	}
}

func TestSort(t *testing.T) { // P7.2
	inf, one, turn := far(), short(1, 0), short(0, 1)
	got, e := sphere.Sort(pointsOf([]spot{inf, one, turn, one})...)
	if e != api.OK || !slices.Equal(got, pointsOf([]spot{turn, one, inf})) {
		t.Errorf("infinity, 1, i, 1 sorted: %v, %v", got, e)
	}
	wantSorted(t, nil)
	wantSorted(t, []spot{})
	wantSorted(t, []spot{inf})
	wantSorted(t, []spot{inf, inf, inf})
	wantSorted(t, grid())
	wantSorted(t, append(good(), good()...))
	var all []spot
	ones(func(z spot) { all = append(all, z) })
	r := rand.New(rand.NewSource(72))
	r.Shuffle(len(all), func(i, j int) { all[i], all[j] = all[j], all[i] })
	wantSorted(t, all)
	for range 500 {
		wantSorted(t, all[r.Intn(20):][:r.Intn(20)])
		var l []spot
		for range r.Intn(12) {
			l = append(l, grid()[r.Intn(len(grid()))])
		}
		wantSorted(t, l)
	}
}

func TestSortIsNewMemory(t *testing.T) { // P7.2
	l := pointsOf(append(grid(), grid()...))
	room := slices.Grow(slices.Clone(l), 9)
	given := room[:len(l)]
	got, _ := sphere.Sort(given...)
	again, _ := sphere.Sort(given...)
	for k := range got[:cap(got)] {
		got[:cap(got)][k] = api.Point{}
	}
	if !slices.Equal(given, l) || slices.ContainsFunc(room[len(l):cap(room)], func(p api.Point) bool { return p != (api.Point{}) }) {
		t.Error("what was handed in has changed")
	}
	if len(again) != len(grid()) || again[0] == (api.Point{}) {
		t.Error("two answers share memory")
	}
	// One that rises already is copied too.
	given = pointsOf([]spot{short(1, 0), short(2, 0)})
	got, _ = sphere.Sort(given...)
	if got[0] = (api.Point{}); given[0] == got[0] {
		t.Error("an answer shares memory with what was handed in")
	}
}

// refused are the calls that take a list, each with what stands beside it
// empty.
func refused(t *testing.T, what string, wanted api.Errno, l ...api.Point) {
	t.Helper()
	i, j, e := sphere.Alike(l...)
	wantPlaces(t, "Alike: "+what, i, j, e, 0, 0, wanted)
	if got, e := sphere.Sort(l...); len(got) != 0 || e != wanted {
		t.Fatalf("Sort: %s: %d, %v, want %v", what, len(got), e, wanted)
	}
	n, e := sphere.Nearest(short(0, 0).point(), l...)
	wantPlaces(t, "Nearest: "+what, n, 0, e, 0, 0, wanted)
}

func TestListsAtTheirBound(t *testing.T) { // P7.2, P7.4
	l := many(api.MaxList)
	i, j, e := sphere.Alike(l...)
	wantPlaces(t, "as many as may be", i, j, e, 0, 0, api.ErrNone)
	l[api.MaxList-1] = l[api.MaxList-2]
	i, j, e = sphere.Alike(l...)
	wantPlaces(t, "the last two alike", i, j, e, api.MaxList-2, api.MaxList-1, api.OK)
	got, e := sphere.Sort(l...)
	if len(got) != api.MaxList-1 || e != api.OK || !slices.IsSortedFunc(got, func(p, q api.Point) int { return order(spotOf(p), spotOf(q)) }) {
		t.Errorf("as many as may be, sorted: %d, %v", len(got), e)
	}
	l[api.MaxList-1] = short(3, 1).point()
	if n, e := sphere.Nearest(short(3, 1).point(), l...); n != api.MaxList-1 || e != api.OK {
		t.Errorf("the nearest of as many as may be: %d, %v", n, e)
	}
	wantNearest(t, short(-9, 4), spotsOf(l))
	l = append(l, l[5])
	refused(t, "one more than may be", api.ErrLong, l...)
	for _, p := range wrong() {
		for _, at := range []int{0, 2000, api.MaxList} {
			bad := slices.Clone(l)
			bad[at] = p
			refused(t, "a wrong one among too many", api.ErrArg, bad...)
		}
	}
}

func TestListsRefuseWrongOnes(t *testing.T) { // P7.2, P7.4
	one := short(1, 0).point()
	for _, p := range wrong() {
		refused(t, "a wrong one", api.ErrArg, p)
		refused(t, "a wrong one first", api.ErrArg, p, one, one)
		refused(t, "a wrong one behind two alike", api.ErrArg, one, one, p)
		refused(t, "a wrong one behind the nearest", api.ErrArg, short(0, 0).point(), one, p)
	}
}

func TestLongLists(t *testing.T) { // P7.2, P7.4
	l := long(1000)
	got, e := sphere.Sort(l...)
	if len(got) != len(l) || e != api.OK || !slices.IsSortedFunc(got, func(p, q api.Point) int { return order(spotOf(p), spotOf(q)) }) {
		t.Errorf("long points sorted: %d, %v", len(got), e)
	}
	i, j, e := sphere.Alike(append(l, l[7])...)
	wantPlaces(t, "long points", i, j, e, 7, len(l), api.OK)
}
