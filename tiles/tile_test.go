package tiles_test

import (
	"math"
	"math/rand"
	"slices"
	"testing"

	"tracery/api"
	"tracery/tiles"
)

// wantTile wants the sides that the way's maps, put together, come to.
func wantTile(t *testing.T, what string, d deal, way ...int) string {
	t.Helper()
	got, e := tiles.Tile(d.tiling(), way...)
	return wantSides(t, what, got, e, d.tile(way...)...)
}

// P18.5: examples.
func TestTileExamples(t *testing.T) {
	for _, d := range deals() {
		got, e := tiles.Tile(d.tiling())
		wantSides(t, d.name+" of no way", got, e, d.sides...)
		for k := 1; k <= len(d.sides); k++ {
			for _, way := range [][]int{{k, -k}, {-k, k}, {k, k, -k, -k}, {1, k, -k, -1}} {
				got, e := tiles.Tile(d.tiling(), way...)
				wantSides(t, d.name+" there and back", got, e, d.sides...)
			}
		}
	}
	shifted := func(n int64) []verge {
		return []verge{{ringed(0, 1, 0, -2*n-1), -1, false}, {ringed(0, 1, 0, 1-2*n), 1, true}, {about(in(n, 0), rat(1, 1)), 1, true}}
	}
	for _, x := range []struct {
		way  []int
		want []verge
	}{
		{[]int{1}, shifted(1)},
		{[]int{2}, shifted(-1)},
		{[]int{-1, -1, -1}, shifted(-3)},
		{[]int{1, 2}, shifted(0)},
		{[]int{3, 3}, shifted(0)},
		{[]int{-3, 1, 3, -2, -3, 2, 3, 1}, modular().tile(-3, 1, 3, -2, -3, 2, 3, 1)},
		{[]int{3}, []verge{{about(in(-1, 0), rat(1, 1)), 1, false}, {about(in(1, 0), rat(1, 1)), 1, true}, {unit(), -1, true}}},
		{[]int{1, 3}, []verge{{unit(), 1, false}, {about(in(2, 0), rat(1, 1)), 1, true}, {about(in(1, 0), rat(1, 1)), -1, true}}},
		{slices.Repeat([]int{1}, api.MaxList), shifted(api.MaxList)},
		{slices.Repeat([]int{-1}, api.MaxList), shifted(-api.MaxList)},
		{slices.Repeat([]int{3}, api.MaxList), shifted(0)},
	} {
		got, e := tiles.Tile(tiles.Whole(), x.way...)
		wantSides(t, "a tile of the whole matrices'", got, e, x.want...)
	}
}

// P18.5: ways at random, of all kinds of maps.
func TestTileOfMany(t *testing.T) {
	r, seen := rand.New(rand.NewSource(185)), tally{}
	some := deals()
	for n := range 400 {
		d := some[n%len(some)].deal
		if n%3 == 0 {
			d = deal{}
			for range 1 + r.Intn(3) {
				d.sides = append(d.sides, oddVerge(r, 1+n%40))
				d.maps = append(d.maps, oddChart(r, 1+n%40))
			}
		}
		var way []int
		for range r.Intn(12) {
			k := 1 + r.Intn(len(d.sides))
			way = append(way, k-2*k*r.Intn(2))
		}
		seen[wantTile(t, "a tile", d, way...)]++
	}
	for range 3 {
		var way []int
		for range 1000 {
			way = append(way, []int{1, 1, 3, 2, -3, -1}[r.Intn(6)])
		}
		seen[wantTile(t, "a tile far off", modular(), way...)]++
	}
	seen.least(t, 5, "fits", "too big")
}

// lines are sides that stay where they are by all maps z to r z, r real.
func lines() []verge {
	return []verge{{beside(rat(0, 1)), 1, true}, {level(rat(0, 1)), -1, false}, {ringed(0, 1, 3, 0), -1, true}}
}

// P18.5: the maps put together may be too big, if the sides are not.
func TestTileByLongMaps(t *testing.T) {
	long := stretch(flat(ofInt(top())))
	d := deal{lines(), []chart{long, long.inverse(), stretch(num{ofInt(top()), ofInt(top())})}}
	for _, way := range [][]int{{1}, {1, 1}, {-2, 1, 1}, slices.Repeat([]int{1}, api.MaxList), slices.Repeat([]int{2}, api.MaxList), slices.Repeat([]int{-1}, api.MaxList)} {
		got, e := tiles.Tile(d.tiling(), way...)
		wantSides(t, "lines through 0", got, e, lines()...)
	}
	// The third map's inverse is too big by itself; four times it turns all back.
	for _, way := range [][]int{{3}, {-3}, {3, 3}, {-3, -3, -3}} {
		wantTile(t, "lines through 0, turned", d, way...)
	}
	got, e := tiles.Tile(d.tiling(), slices.Repeat([]int{-3}, api.MaxList)...)
	wantSides(t, "lines through 0, turned round and round", got, e, lines()...)
	// Real numbers leave the real line where it is.
	r := rand.New(rand.NewSource(1850))
	real := deal{[]verge{{level(rat(0, 1)), -1, true}, {level(rat(0, 1)), 1, true}}, nil}
	for len(real.maps) < 2 {
		m := chart{flat(odd(r, 900)), flat(odd(r, 900)), in(1, 0), flat(odd(r, 900)), len(real.maps) == 1}
		if !m.flat() {
			real.maps = append(real.maps, m)
		}
	}
	for n := range 6 {
		var way []int
		for range n * n * n {
			way = append(way, []int{1, 2, -1, -2}[r.Intn(4)])
		}
		if n < 3 {
			wantTile(t, "the real line", real, way...)
		}
		got, e := tiles.Tile(real.tiling(), way...)
		if len(got) != 2 || got[0].Circle != level(rat(0, 1)).circle() || e != api.OK {
			t.Errorf("the real line is brought away, %v", e)
		}
	}
}

// P18.5: sides that are too big on the way, and come back, by maps none of which
// undoes another one.
func TestTileThereAndBack(t *testing.T) {
	p, q := flat(ofInt(twos(4000).Add(twos(4000), twos(17)))), flat(ofInt(twos(4001).Sub(twos(4001), twos(0))))
	back := stretch(p).behind(stretch(q)).inverse()
	round := deal{[]verge{{unit(), -1, true}, {about(parts(2, 3, -1, 5), rat(1, 7)), 1, false}, {beside(rat(1, 3)), 1, true}}, []chart{stretch(p), stretch(q).turned(), back}}
	for _, n := range []int{1, 2, 6, 15} {
		way := slices.Concat(slices.Repeat([]int{1}, 2*n), slices.Repeat([]int{2}, 2*n), slices.Repeat([]int{3}, 2*n))
		got, e := tiles.Tile(round.tiling(), way...)
		wantSides(t, "there and back", got, e, round.sides...)
		got, e = tiles.Tile(round.tiling(), append(way, 1)...)
		wantSides(t, "there and back, and on", got, e, round.tile(1)...)
		got, e = tiles.Tile(round.tiling(), append(way, 1, 1, 1)...)
		wantNoSides(t, "there and back, and too far", got, e, api.ErrBig)
	}
	// Sides that are paired cancel, however far they go.
	paired := deal{round.sides[:2], []chart{stretch(p), stretch(p).inverse()}}
	way := slices.Concat(slices.Repeat([]int{1}, api.MaxList/2), slices.Repeat([]int{2}, api.MaxList/2))
	got, e := tiles.Tile(paired.tiling(), way...)
	wantSides(t, "far off and back", got, e, paired.sides...)
}

// P18.5: ErrBig, from the first bit on that is one too many, of whichever side,
// and of ways as long as may be by maps as long as may be.
func TestTileTooBig(t *testing.T) {
	d := deal{append(lines()[:2], verge{unit(), 1, true}), []chart{stretch(in(2, 0)), stretch(flat(ofInt(top()))), slide(flat(ofInt(share(2))))}}
	slid := deal{lines()[:2], []chart{slide(flat(ofInt(share(2)))), slide(num{ofInt(share(4)), ofInt(share(4))})}}
	for n, wanted := range map[int]string{1: "fits", 4095: "fits", 4096: "too big"} {
		for _, k := range []int{1, -1} {
			if got := wantTile(t, "doubling", d, slices.Repeat([]int{k}, n)...); got != wanted {
				t.Errorf("doubled %d times it %s", n, got)
			}
		}
	}
	for _, way := range [][]int{{2}, {-2}, {3, 3}, slices.Repeat([]int{2}, api.MaxList), slices.Repeat([]int{-2}, api.MaxList), slices.Repeat([]int{3}, api.MaxList)} {
		got, e := tiles.Tile(d.tiling(), way...)
		wantNoSides(t, "a side that is too big", got, e, api.ErrBig)
	}
	for _, x := range []struct {
		way  []int
		want string
	}{{[]int{1}, "fits"}, {[]int{1, 1}, "too big"}, {[]int{2, 2}, "fits"}, {[]int{2, 2, 2}, "too big"}, {[]int{1, 2}, "too big"}, {[]int{-1, 2}, "fits"}, {[]int{1, 2, -1}, "fits"}} {
		if got := wantTile(t, "slides", slid, x.way...); got != x.want {
			t.Errorf("slid by %v it %s", x.way, got)
		}
	}
	for k := range 3 {
		sides := slices.Concat(d.sides[2-k:], d.sides[:2-k])
		got, e := tiles.Tile(deal{sides, d.maps}.tiling(), 2, 2, 2)
		wantNoSides(t, "one that is too big at another place", got, e, api.ErrBig)
	}
	r := rand.New(rand.NewSource(1851))
	var long deal
	for range 4 {
		long.sides = append(long.sides, oddVerge(r, api.MaxWhole))
		long.maps = append(long.maps, oddChart(r, api.MaxWhole))
	}
	for _, n := range []int{2, 9, 300} {
		var way []int
		for range n {
			way = append(way, 1+r.Intn(4))
		}
		got, e := tiles.Tile(long.tiling(), way...)
		wantNoSides(t, "long maps", got, e, api.ErrBig)
	}
}

// P18.5: what may not be, and the order of the errors.
func TestTileRefuses(t *testing.T) {
	long := slices.Repeat([]int{1}, api.MaxList+1)
	for _, wrong := range wrongTilings() {
		for _, way := range [][]int{nil, {1}, {9}, long} {
			got, e := tiles.Tile(wrong, way...)
			wantNoSides(t, "a wrong tiling", got, e, api.ErrArg)
		}
	}
	got, e := tiles.Tile(tiles.Whole(), long...)
	wantNoSides(t, "a way that is too long", got, e, api.ErrLong)
	got, e = tiles.Tile(tiles.Whole(), slices.Concat(long, []int{-1, -1})...)
	wantNoSides(t, "a way that is too long, and cancels", got, e, api.ErrLong)
	got, e = tiles.Tile(shells().tiling(), long...)
	wantNoSides(t, "a way that is too long, and too big", got, e, api.ErrLong)
	for _, d := range deals() {
		n := len(d.sides)
		for _, k := range []int{0, n + 1, -n - 1, 17, -17, 65, math.MaxInt, math.MinInt, math.MinInt + 1} {
			for _, way := range [][]int{{k}, {1, k}, {k, 1, -1}, {1, 1, k, -1}, append(slices.Clone(long), k), append([]int{k}, long...)} {
				got, e := tiles.Tile(d.tiling(), way...)
				wantNoSides(t, "a number that is none", got, e, api.ErrArg)
			}
		}
		got, e := tiles.Tile(d.tiling(), n, -n, n)
		wantSides(t, "the last number", got, e, d.tile(n)...)
	}
	sixteen := crowd(16)
	got, e = tiles.Tile(sixteen.tiling(), 16, 1, -16)
	wantSides(t, "the sixteenth", got, e, sixteen.tile(1)...)
}
