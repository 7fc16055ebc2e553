package mob_test

import (
	"math/rand"
	"testing"

	"tracery/api"
	"tracery/mob"
)

type three = [3]spot

func pointsOfThree(l three) [3]api.Point {
	return [3]api.Point{l[0].point(), l[1].point(), l[2].point()}
}

// level is the map that sends three unlike points to 0, 1 and infinity, by the
// cross ratio's formula and its limits.
func level(l three) chart {
	p, q, r := l[0].z, l[1].z, l[2].z
	one, zero := in(1, 0), in(0, 0)
	switch {
	case l[0].inf:
		return chart{a: zero, b: q.minus(r), c: one, d: r.neg()}
	case l[1].inf:
		return chart{a: one, b: p.neg(), c: one, d: r.neg()}
	case l[2].inf:
		return chart{a: one, b: p.neg(), c: zero, d: q.minus(p)}
	}
	s, t := q.minus(r), q.minus(p)
	return chart{a: s, b: s.times(p).neg(), c: t, d: t.times(r).neg()}
}

// told is the one map from three points to three.
func told(from, to three, turns bool) chart {
	if turns {
		return level(to).inverse().behind(still().turned()).behind(level(from))
	}
	return level(to).inverse().behind(level(from))
}

func unlike(l three) bool {
	p := pointsOfThree(l)
	return p[0] != p[1] && p[0] != p[2] && p[1] != p[2]
}

func TestOf(t *testing.T) { // P8.4
	check := func(from, to three) {
		t.Helper()
		for _, turns := range []bool{false, true} {
			got, e := mob.Of(pointsOfThree(from), pointsOfThree(to), turns)
			if !unlike(from) || !unlike(to) {
				wantRefused(t, "a map of twins", got, e, api.ErrTwins)
				continue
			}
			wantChart(t, "a map of three points", got, e, told(from, to, turns))
			for k, p := range from {
				if e == api.OK && (got.Turns != turns || chartOf(got).at(p).point() != to[k].point()) {
					t.Fatalf("%s does not send %d of three points as it must", brief(got), k)
				}
			}
		}
	}
	r := rand.New(rand.NewSource(840))
	all := spots()
	some := func() three { return three{all[r.Intn(len(all))], all[r.Intn(len(all))], all[r.Intn(len(all))]} }
	for range 250 {
		check(some(), some())
	}
	for range 100 {
		check(three{oddSpot(r, 15), oddSpot(r, 15), oddSpot(r, 15)}, three{oddSpot(r, 15), oddSpot(r, 15), oddSpot(r, 15)})
	}
	// Infinity in each place of both.
	inf, zero, one := far(), at(in(0, 0)), at(in(1, 2))
	for _, from := range []three{{inf, zero, one}, {zero, inf, one}, {one, zero, inf}, {zero, one, at(in(3, -1))}} {
		for _, to := range []three{{inf, zero, one}, {one, inf, zero}, {zero, one, inf}, {zero, one, at(in(2, 2))}} {
			check(from, to)
		}
	}
}

func TestOfExamples(t *testing.T) { // P8.4
	zero, one, two, inf := at(in(0, 0)), at(in(1, 0)), at(in(2, 0)), far()
	got, e := mob.Of(pointsOfThree(three{zero, one, inf}), pointsOfThree(three{zero, one, inf}), true)
	want(t, "what turns and leaves 0, 1, infinity", got, e, still().turned())
	got, e = mob.Of(pointsOfThree(three{zero, one, inf}), pointsOfThree(three{zero, one, inf}), false)
	want(t, "what leaves 0, 1, infinity", got, e, still())
	got, e = mob.Of(pointsOfThree(three{zero, one, two}), pointsOfThree(three{one, two, inf}), false)
	want(t, "0, 1, 2 to 1, 2, infinity", got, e, charted(0, -2, 1, -2))
	i, j := at(in(0, 1)), at(in(0, -1))
	got, e = mob.Of(pointsOfThree(three{zero, one, i}), pointsOfThree(three{zero, one, j}), true)
	want(t, "0, 1, i to their conjugates", got, e, still().turned())
}

func TestOfRefusesTwins(t *testing.T) { // P8.4
	zero, one, inf, long := at(in(0, 0)), at(in(1, 0)), far(), at(num{full(rand.New(rand.NewSource(841)), 1024), none()})
	good := pointsOfThree(three{zero, one, inf})
	for _, l := range []three{
		{zero, zero, one}, {zero, one, zero}, {one, zero, zero}, {zero, zero, zero}, {inf, inf, one}, {inf, one, inf}, {one, inf, inf}, {inf, inf, inf},
		{long, long, one}, {long, one, long}, {one, long, long},
	} {
		twins := pointsOfThree(l)
		for _, turns := range []bool{false, true} {
			got, e := mob.Of(twins, good, turns)
			wantRefused(t, "a map from twins", got, e, api.ErrTwins)
			got, e = mob.Of(good, twins, turns)
			wantRefused(t, "a map to twins", got, e, api.ErrTwins)
			got, e = mob.Of(twins, twins, turns)
			wantRefused(t, "a map from twins to twins", got, e, api.ErrTwins)
		}
		for _, p := range wrongPoints() {
			for k := range 3 {
				wrong := good
				wrong[k] = p
				for _, x := range [][2][3]api.Point{{wrong, good}, {good, wrong}, {wrong, twins}, {twins, wrong}, {wrong, wrong}} {
					got, e := mob.Of(x[0], x[1], k == 0)
					wantRefused(t, "a map of a wrong point", got, e, api.ErrArg)
				}
			}
		}
		twins[0] = api.Point{}
		got, e := mob.Of(twins, good, false)
		wantRefused(t, "a map from two that may be twins and a wrong one", got, e, api.ErrArg)
	}
}

// What is long on the way alone is not refused.
func TestOfLongOnTheWay(t *testing.T) { // P8.4
	r := rand.New(rand.NewSource(842))
	from := three{at(fullNum(r, 1000)), at(fullNum(r, 1000)), at(fullNum(r, 1000))}
	for _, m := range []chart{still(), slide(in(1, -1)), stretch(in(0, 3))} {
		for _, turns := range []bool{false, true} {
			if m.turns = turns; !m.at(from[0]).fits() || !m.at(from[1]).fits() || !m.at(from[2]).fits() {
				t.Fatal("the images are too big")
			}
			to := three{m.at(from[0]), m.at(from[1]), m.at(from[2])}
			got, e := mob.Of(pointsOfThree(from), pointsOfThree(to), turns)
			want(t, "a short map of long points", got, e, m)
		}
	}
	got, e := mob.Of(pointsOfThree(from), pointsOfThree(three{far(), at(in(0, 0)), at(in(1, 0))}), false)
	wantRefused(t, "a long map of long points", got, e, api.ErrBig)
}

func TestOfAtTheBound(t *testing.T) { // P8.4
	zero, one, inf := at(in(0, 0)), at(in(1, 0)), far()
	edge := at(real(ofInt(twos(8*api.MaxWhole - 1))))
	for _, x := range []struct {
		from, to three
		want     api.Errno
	}{
		{three{zero, one, inf}, three{zero, edge, inf}, api.OK}, {three{zero, at(real(half())), inf}, three{zero, edge, inf}, api.ErrBig},
		{three{zero, edge, inf}, three{zero, one, inf}, api.OK}, {three{zero, edge, inf}, three{zero, at(real(half())), inf}, api.ErrBig},
		{three{zero, one, inf}, three{at(real(ofInt(top()))), at(real(ofInt(less(top(), 1)))), inf}, api.OK},
		{three{one, zero, inf}, three{at(real(ofInt(top()))), at(real(ofInt(less(top(), 1)))), inf}, api.OK},
		{three{at(in(-1, 0)), at(in(-2, 0)), inf}, three{at(real(ofInt(top()))), at(real(ofInt(less(top(), 1)))), inf}, api.ErrBig},
	} {
		got, e := mob.Of(pointsOfThree(x.from), pointsOfThree(x.to), false)
		if e != x.want {
			t.Errorf("a map at the bound: %v, want %v", e, x.want)
		}
		wantChart(t, "a map at the bound", got, e, told(x.from, x.to, false))
	}
}
