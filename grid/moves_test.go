package grid_test

import (
	"math"
	"math/rand"
	"testing"

	"tracery/api"
	"tracery/grid"
)

func wantImage(t *testing.T, seen tally, g lattice, m chart) {
	t.Helper()
	wanted := g.image(m)
	got, e := g.grid(t).Image(m.mob())
	if !wanted.fits() {
		seen["too big"]++
		wantNoGrid(t, "an image that is too big", got, e, api.ErrBig)
		return
	}
	seen["fits"]++
	for k, p := range wanted.l {
		if p.inf && !g.l[k].inf {
			seen["to infinity"]++
		}
		if g.l[k].inf && !p.inf {
			seen["from infinity"]++
		}
	}
	wantGrid(t, "Image", got, e, wanted)
}

func TestImage(t *testing.T) { // P26.4
	seen := tally{}
	for n, g := range nets() {
		for k, m := range charts() {
			if n < 10 || (n+k)%3 == 0 {
				wantImage(t, seen, g, m)
			}
		}
	}
	seen.least(t, 10, "fits", "to infinity", "from infinity")
}

func TestImageTooBig(t *testing.T) { // P26.4
	most := ofInt(top())
	seen := tally{}
	for _, x := range []struct {
		g    lattice
		m    chart
		fits bool
	}{
		{unit(), slide(along(ofInt(more(top(), -2)))), true}, {unit(), slide(along(ofInt(more(top(), -1)))), false}, {unit(), slide(upward(ofInt(more(top(), -1)))), true}, {unit(), slide(upward(most)), false},
		{unit(), stretch(along(ofInt(twos(8190)))), true}, {unit(), stretch(along(ofInt(twos(8191)))), false}, {unit(), stretch(along(ofInt(twos(8191)))).turned(), false},
		{unit().part(0, 0, 1, 1), stretch(along(ofInt(twos(8191)))), true}, {unit().part(0, 0, 1, 1), stretch(along(ofInt(twos(8191)))).turned(), true}, {listed(1, 1, far(), far(), far(), far()), stretch(along(most)), true},
		// The last point alone, and one that goes to infinity beside it.
		{listed(1, 1, on(1, 0), on(0, 1), far(), on(2, 0)), stretch(along(ofInt(twos(8191)))), false}, {listed(1, 1, on(1, 0), on(0, 1), far(), on(-1, 0)), stretch(along(ofInt(twos(8191)))), true},
		{listed(1, 1, on(0, 0), on(0, 1), far(), at(along(under(top())))), charted(0, 1, 1, 0), true}, {listed(1, 1, on(0, 0), on(0, 1), far(), at(num{most, one()})), charted(0, 1, 1, 0), false},
	} {
		if x.g.image(x.m).fits() != x.fits {
			t.Fatal("an image is not as the test has it")
		}
		wantImage(t, seen, x.g, x.m)
	}
	r := rand.New(rand.NewSource(2640))
	for n := range 30 {
		wantImage(t, seen, unit(), chart{longNum(r, 460+n), longNum(r, 10), in(1, 0), longNum(r, 10), n%2 == 0})
	}
	seen.least(t, 8, "fits", "too big")
}

func TestImageAtTheBound(t *testing.T) { // P26.4
	g := laid(parts(1, 3, 0, 1), in(1, 2), in(-1, 1), 64, 64)
	for _, m := range []chart{charted(0, 1, 1, 0), {a: in(1, 1), b: in(2, 0), c: in(1, 0), d: in(-1, -2), turns: true}} {
		wantImage(t, tally{}, g, m)
	}
}

func TestImageRefusesWrongMaps(t *testing.T) { // P26.4
	long := laid(along(ofInt(top())), in(0, 1), in(-1, 0), 1, 1) // most images of it are too big
	for _, m := range wrongMaps() {
		for _, g := range []lattice{unit(), long} {
			got, e := g.grid(t).Image(m)
			wantNoGrid(t, "an image by a wrong map", got, e, api.ErrArg)
		}
	}
}

func TestTurn(t *testing.T) { // P26.4
	for _, g := range nets() {
		made, wanted := g.grid(t), g
		for n := range 5 {
			wantGrid(t, "Turn", made, api.OK, wanted)
			if n == 4 && !made.Same(g.grid(t)) {
				t.Fatal("four times turned it is another one")
			}
			made, wanted = made.Turn(), wanted.turned()
		}
	}
	g := laid(in(0, 0), in(1, 0), in(0, 1), 64, 3)
	wantGrid(t, "Turn of a grid as long as may be", g.grid(t).Turn(), api.OK, g.turned())
	for _, made := range []*grid.Grid{nil, {}} {
		if made.Turn() != nil {
			t.Error("nothing, turned, is something")
		}
	}
}

func TestPart(t *testing.T) { // P26.4
	for n, g := range nets() {
		if n%4 != 0 {
			continue
		}
		made := g.grid(t)
		for i := -1; i <= g.w; i++ {
			for j := -1; j <= g.h; j++ {
				for w := -1; w <= g.w+1; w++ {
					for h := -1; h <= g.h+1; h++ {
						got, e := made.Part(i, j, w, h)
						switch {
						case w < 1 || h < 1:
							wantNoGrid(t, "a part without squares", got, e, api.ErrArg)
						case i < 0 || j < 0 || i+w > g.w || j+h > g.h:
							wantNoGrid(t, "a part that is not there", got, e, api.ErrNone)
						default:
							wantGrid(t, "Part", got, e, g.part(i, j, w, h))
						}
					}
				}
			}
		}
	}
	g := laid(in(0, 0), in(1, 0), in(0, 1), 64, 64)
	made := g.grid(t)
	for _, x := range [][4]int{{0, 0, 64, 64}, {63, 63, 1, 1}, {63, 0, 1, 64}, {0, 63, 64, 1}, {31, 7, 20, 57}} {
		got, e := made.Part(x[0], x[1], x[2], x[3])
		wantGrid(t, "Part of a grid as great as may be", got, e, g.part(x[0], x[1], x[2], x[3]))
	}
}

func TestPartRefuses(t *testing.T) { // P26.4
	made := laid(in(0, 0), in(1, 0), in(0, 1), 5, 4).grid(t)
	huge := []int{65, 1 << 32, 1 << 62, math.MaxInt, math.MaxInt - 1, math.MaxInt - 4}
	low := []int{-1, -65, math.MinInt, math.MinInt + 1, math.MinInt + 5}
	for _, n := range append(append([]int{}, huge...), low...) {
		for _, x := range [][2]int{{n, 0}, {0, n}, {n, n}, {n, 1}} {
			got, e := made.Part(x[0], x[1], 1, 1)
			wantNoGrid(t, "a part beyond", got, e, api.ErrNone)
			got, e = made.Part(x[0], x[1], 65, math.MaxInt)
			wantNoGrid(t, "a part beyond, greater than may be", got, e, api.ErrNone)
			for _, w := range append([]int{0}, low...) {
				got, e = made.Part(x[0], x[1], w, 1)
				wantNoGrid(t, "a part beyond, without squares", got, e, api.ErrArg)
				got, e = made.Part(x[0], x[1], 1, w)
				wantNoGrid(t, "a part beyond, without squares", got, e, api.ErrArg)
			}
		}
	}
	for _, n := range huge {
		for _, x := range [][2]int{{n, 1}, {1, n}, {n, n}} {
			for _, i := range []int{0, 1, 4, math.MaxInt, math.MinInt} {
				got, e := made.Part(i, 0, x[0], x[1])
				wantNoGrid(t, "a part that is too great", got, e, api.ErrNone)
				got, e = made.Part(0, i, x[0], x[1])
				wantNoGrid(t, "a part that is too great", got, e, api.ErrNone)
			}
		}
	}
}
