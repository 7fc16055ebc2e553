package tiles_test

import (
	"math/rand"
	"slices"
	"testing"

	"tracery/api"
	"tracery/tiles"
)

// P18.1: the examples of the chapter.
func TestWhereExamples(t *testing.T) {
	inside := verge{unit(), -1, true}.side()
	for p, wanted := range map[spot]api.Place{on(0, 0): api.PlaceIn, on(1, 0): api.PlaceRim, on(2, 0): api.PlaceOut, far(): api.PlaceOut} {
		got, e := tiles.Where(p.point(), inside)
		want(t, "Where", got, e, wanted)
	}
}

// P18.1: a value that is 0, at a side with its edge and at one without it.
func TestEdges(t *testing.T) {
	right := verge{beside(rat(0, 1)), 1, true}
	for _, x := range []struct {
		p      spot
		l      []verge
		place  api.Place
		beyond int
	}{
		{on(1, 0), []verge{{unit(), -1, true}}, api.PlaceRim, -1},
		{on(1, 0), []verge{{unit(), -1, false}}, api.PlaceRim, 0},
		{on(1, 0), []verge{{unit(), 1, true}}, api.PlaceRim, -1},
		{on(1, 0), []verge{{unit(), 1, false}}, api.PlaceRim, 0},
		{on(1, 0), []verge{{unit(), -1, true}, right}, api.PlaceRim, -1},
		{on(1, 0), []verge{right, {unit(), -1, false}}, api.PlaceRim, 1},
		{on(-1, 0), []verge{{unit(), -1, true}, right}, api.PlaceOut, 1},
		{on(-1, 0), []verge{{unit(), -1, false}, right}, api.PlaceOut, 0},
		{on(-1, 0), []verge{right, {unit(), -1, false}}, api.PlaceOut, 0},
		{on(0, 1), []verge{{unit(), 1, false}, right}, api.PlaceRim, 0},
		{on(0, 1), []verge{{unit(), 1, true}, {beside(rat(0, 1)), -1, false}}, api.PlaceRim, 1},
		{on(2, 0), []verge{right, {unit(), 1, false}}, api.PlaceIn, -1},
		{far(), []verge{{unit(), 1, false}}, api.PlaceIn, -1},
		{far(), []verge{{unit(), -1, true}}, api.PlaceOut, 0},
		{far(), []verge{right}, api.PlaceRim, -1},
		{far(), []verge{{unit(), 1, false}, {beside(rat(5, 1)), 1, false}}, api.PlaceRim, 1},
		{far(), []verge{{beside(rat(5, 1)), -1, true}, {unit(), -1, true}}, api.PlaceOut, 1},
	} {
		got, e := tiles.Where(x.p.point(), sidesOf(x.l...)...)
		want(t, "Where", got, e, x.place)
		k, e := tiles.Beyond(x.p.point(), sidesOf(x.l...)...)
		want(t, "Beyond", k, e, x.beyond)
	}
}

// P18.1: a region without sides holds all points, one of a side and its contrary
// none.
func TestAllAndNothing(t *testing.T) {
	wantError(t, "Check of no sides", tiles.Check(), api.OK)
	wantError(t, "Check of an empty list", tiles.Check([]api.Side{}...), api.OK)
	for _, p := range spots() {
		got, e := tiles.Where(p.point())
		want(t, "Where of no sides", got, e, api.PlaceIn)
		k, e := tiles.Beyond(p.point())
		want(t, "Beyond no side", k, e, -1)
		for _, k := range rings() {
			nothing := sidesOf(verge{k, 1, false}, verge{k, -1, false})
			place, e := tiles.Where(p.point(), nothing...)
			wanted := api.PlaceOut
			if k.value(p) == 0 {
				wanted = api.PlaceRim
			}
			want(t, "Where of nothing", place, e, wanted)
			if n, e := tiles.Beyond(p.point(), nothing...); n < 0 || e != api.OK {
				t.Errorf("a point in nothing: %d, %v", n, e)
			}
		}
	}
}

// P18.1: Value, Where and Beyond by the chapter's words.
func TestWhereOfMany(t *testing.T) {
	r, seen := rand.New(rand.NewSource(181)), tally{}
	names := map[api.Place]string{api.PlaceOut: "out", api.PlaceIn: "in", api.PlaceRim: "rim"}
	look := func(p spot, l ...verge) {
		t.Helper()
		wantError(t, "Check", tiles.Check(sidesOf(l...)...), api.OK)
		place, e := tiles.Where(p.point(), sidesOf(l...)...)
		want(t, "Where", place, e, where(p, l...))
		k, e := tiles.Beyond(p.point(), sidesOf(l...)...)
		want(t, "Beyond", k, e, beyond(p, l...))
		for _, s := range l {
			v, e := tiles.Value(s.circle(), p.point())
			want(t, "Value", v, e, s.value(p))
		}
		seen[names[place]]++
		if k > 0 {
			seen["beyond a later one"]++
		}
		if place == api.PlaceRim && k < 0 {
			seen["on the rim by an edge"]++
		}
	}
	all, some := rings(), spots()
	for _, p := range some {
		for _, k := range all {
			look(p, verge{k, 1, true})
			look(p, verge{k, -1, false})
		}
	}
	for n := range 3000 {
		var l, odds []verge
		for range r.Intn(4) {
			l = append(l, verge{all[r.Intn(len(all))], 2*r.Intn(2) - 1, r.Intn(2) == 0})
			odds = append(odds, oddVerge(r, 3))
		}
		look(some[r.Intn(len(some))], l...)
		look(oddSpot(r, 3), odds...)
		if n%100 == 0 {
			look(oddSpot(r, api.MaxWhole), oddVerge(r, api.MaxWhole), oddVerge(r, api.MaxWhole))
		}
	}
	seen.least(t, 200, "in", "out", "rim", "beyond a later one", "on the rim by an edge")
}

// P18.1: values that are 0 by the last bit of numbers as long as may be.
func TestLongValues(t *testing.T) {
	far, near := flat(ofInt(top())), flat(minus(ofInt(top()), rat(1, 1)))
	for _, x := range []struct {
		p     num
		k     ring
		value int
	}{
		{far, beside(ofInt(share(2))), 1},
		{flat(ofInt(share(2))), beside(ofInt(share(2))), 0},
		{flat(opposite(ofInt(share(2)))), beside(ofInt(share(2))), -1},
		{far, ring{rat(1, 1), flat(opposite(ofInt(top()))), rat(1, 1)}, -1},
		{far, ring{rat(1, 1), in(0, 0), opposite(ofInt(top()))}, 1},
		{near, ring{rat(1, 1), flat(opposite(ofInt(top()))), ofInt(top())}, -1},
		{num{ofInt(top()), ofInt(top())}, ringed(0, 1, 1, 0), 0},
		{num{ofInt(top()), near.re}, ringed(0, 1, 1, 0), 1},
		{num{near.re, ofInt(top())}, ringed(0, 1, 1, 0), -1},
		{num{under(top()), under(top())}, ringed(0, 1, 1, 0), 0},
		{num{ofInt(top()), under(top())}, level(under(top())), 0},
	} {
		v, e := tiles.Value(x.k.circle(), at(x.p).point())
		want(t, "Value", v, e, x.value)
		for _, sign := range []int{-1, 1} {
			s := verge{x.k, sign, true}
			place, e := tiles.Where(at(x.p).point(), s.side())
			want(t, "Where", place, e, where(at(x.p), s))
		}
	}
}

// P18.1: what may not be, and the order of the errors.
func TestWhereRefuses(t *testing.T) {
	good := slices.Repeat(sidesOf(verge{unit(), 1, true}, verge{beside(rat(1, 2)), -1, false}), 8)
	more := append(slices.Clone(good), good[0])
	refused := func(what string, p api.Point, wanted api.Errno, l ...api.Side) {
		t.Helper()
		place, e := tiles.Where(p, l...)
		wantNone(t, "Where: "+what, place, e, wanted)
		k, e := tiles.Beyond(p, l...)
		wantNone(t, "Beyond: "+what, k, e, wanted)
	}
	wantError(t, "Check of 16", tiles.Check(good...), api.OK)
	wantError(t, "Check of 17", tiles.Check(more...), api.ErrLong)
	wantError(t, "Check of 5000", tiles.Check(slices.Repeat(more, 300)...), api.ErrLong)
	refused("17 sides", on(0, 0).point(), api.ErrLong, more...)
	refused("5000 sides", far().point(), api.ErrLong, slices.Repeat(more, 300)...)
	place, e := tiles.Where(on(9, 9).point(), good...)
	want(t, "Where of 16 sides", place, e, api.PlaceOut)
	k, e := tiles.Beyond(on(9, 9).point(), good...)
	want(t, "Beyond 16 sides", k, e, 1)
	for n, s := range wrongSides() {
		wantError(t, "Check of a wrong side", tiles.Check(s), api.ErrArg)
		refused("a wrong side", on(0, 0).point(), api.ErrArg, s)
		l, long := slices.Clone(good), slices.Clone(more)
		l[n%16], long[n%17] = s, s
		wantError(t, "Check with a wrong side", tiles.Check(l...), api.ErrArg)
		refused("with a wrong side", far().point(), api.ErrArg, l...)
		wantError(t, "Check of 17, a wrong one among them", tiles.Check(long...), api.ErrArg)
		refused("17, a wrong one among them", on(0, 0).point(), api.ErrArg, long...)
	}
	for _, p := range wrongPoints() {
		refused("a wrong point", p, api.ErrArg)
		refused("a wrong point", p, api.ErrArg, good...)
		refused("a wrong point, 17 sides", p, api.ErrArg, more...)
		v, e := tiles.Value(unit().circle(), p)
		wantNone(t, "Value of a wrong point", v, e, api.ErrArg)
	}
	for _, c := range wrongCircles() {
		v, e := tiles.Value(c, on(0, 0).point())
		wantNone(t, "Value at a wrong circle", v, e, api.ErrArg)
		v, e = tiles.Value(c, far().point())
		wantNone(t, "Value of infinity at a wrong circle", v, e, api.ErrArg)
	}
}
