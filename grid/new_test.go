package grid_test

import (
	"math"
	"math/big"
	"math/rand"
	"slices"
	"testing"

	"tracery/api"
	"tracery/grid"
)

// wantLaid wants what New makes, or ErrBig, if a point does not fit; it tells
// which of both it was.
func wantLaid(t *testing.T, what string, at0, right, up num, w, h int) bool {
	t.Helper()
	wanted := laid(at0, right, up, w, h)
	got, e := grid.New(at0.gauss(), right.gauss(), up.gauss(), w, h)
	if !wanted.fits() {
		wantNoGrid(t, what, got, e, api.ErrBig)
		return false
	}
	wantGrid(t, what, got, e, wanted)
	return true
}

func TestNew(t *testing.T) { // P26.1
	r := rand.New(rand.NewSource(2620))
	for n := range 150 {
		right, up := steps(r, 1+n/15)
		wantLaid(t, "New", oddNum(r, 1+n/20), right, up, 1+r.Intn(6), 1+r.Intn(6))
	}
	for _, x := range []struct{ right, up num }{
		{in(1, 0), in(0, 1)}, {in(1, 0), in(0, -1)}, {in(-1, 0), in(0, 1)}, {in(0, 1), in(1, 0)}, {in(1, 0), in(1, 1)}, {in(3, 4), in(-4, 3)}, {in(1, 1), in(1, 2)}, {in(1, 0), parts(-1, 1, 1, 1000)},
		{parts(1, 7, 0, 1), parts(0, 1, 1, 7)}, {parts(1, 7, 1, 3), parts(2, 7, 1, 5)},
	} {
		for _, w := range []int{1, 2, 7} {
			for _, h := range []int{1, 3, 6} {
				wantLaid(t, "New", parts(2, 3, -1, 5), x.right, x.up, w, h)
			}
		}
	}
}

func TestNewAtTheBound(t *testing.T) { // P26.1
	for _, x := range [][2]int{{64, 1}, {1, 64}, {64, 64}, {63, 64}} {
		wantLaid(t, "a grid as great as may be", parts(1, 3, 2, 1), parts(1, 2, 1, 5), in(0, 2), x[0], x[1])
	}
	for _, n := range []int{65, 66, 128, 4096, 1 << 32, math.MaxInt} {
		for _, x := range [][2]int{{n, 1}, {1, n}, {n, n}, {n, 64}, {64, n}} {
			got, e := grid.New(in(0, 0).gauss(), in(1, 0).gauss(), in(0, 1).gauss(), x[0], x[1])
			wantNoGrid(t, "a grid greater than may be", got, e, api.ErrLong)
			got, e = grid.New(in(0, 0).gauss(), in(1, 0).gauss(), in(2, 0).gauss(), x[0], x[1])
			wantNoGrid(t, "a flat grid greater than may be", got, e, api.ErrLong)
			got, e = grid.New(along(ofInt(top())).gauss(), in(1, 0).gauss(), in(0, 1).gauss(), x[0], x[1])
			wantNoGrid(t, "a grid greater than may be with a point that is too big", got, e, api.ErrLong)
		}
	}
}

func TestNewRefusesSides(t *testing.T) { // P26.1
	for _, n := range []int{0, -1, -64, -65, math.MinInt, math.MinInt + 1} {
		for _, x := range [][2]int{{n, 1}, {1, n}, {n, n}, {n, 65}, {65, n}, {n, math.MaxInt}, {math.MaxInt, n}} {
			for _, up := range []num{in(0, 1), in(2, 0), in(0, 0)} {
				got, e := grid.New(in(0, 0).gauss(), in(1, 0).gauss(), up.gauss(), x[0], x[1])
				wantNoGrid(t, "a grid without squares", got, e, api.ErrArg)
			}
		}
	}
}

func TestNewRefusesWrongNumbers(t *testing.T) { // P26.1
	good, flat := in(0, 1).gauss(), in(0, 2).gauss()
	for _, z := range wrongNumbers() {
		for _, l := range [][3]api.Gauss{{z, in(1, 0).gauss(), good}, {good, z, good}, {good, good, z}, {z, good, flat}, {z, z, z}, {good, z, z}} {
			for _, x := range [][2]int{{1, 1}, {64, 2}, {65, 1}, {1, math.MaxInt}, {0, 1}, {1, -1}} {
				got, e := grid.New(l[0], l[1], l[2], x[0], x[1])
				wantNoGrid(t, "a grid of a wrong number", got, e, api.ErrArg)
			}
		}
	}
}

func TestNewRefusesFlatOnes(t *testing.T) { // P26.1
	r := rand.New(rand.NewSource(2621))
	wild := longNum(r, 500)
	most := num{ofInt(top()), ofInt(top())}
	for _, x := range []struct{ right, up num }{
		{in(1, 0), in(2, 0)}, {in(1, 0), in(-2, 0)}, {in(1, 0), in(1, 0)}, {in(1, 0), in(0, 0)}, {in(0, 0), in(0, 1)}, {in(0, 0), in(0, 0)}, {in(0, 3), in(0, -1)}, {in(2, 4), parts(1, 3, 2, 3)}, {in(1, 2), in(-1, -2)},
		{wild, wild}, {wild, wild.neg()}, {wild, wild.scaled(rat(2, 3))}, {most, most}, {most, in(-1, -1)}, {in(0, 0), most}, {most, in(0, 0)}, {along(under(top())), along(ofInt(top()))},
	} {
		for _, at0 := range []num{in(0, 0), parts(1, 2, 5, 1), most, wild} {
			got, e := grid.New(at0.gauss(), x.right.gauss(), x.up.gauss(), 3, 64)
			wantNoGrid(t, "a flat grid", got, e, api.ErrFlat)
		}
	}
	// Cross is so near 0 as may be, or too big: it is not 0.
	least, greatest := under(top()), ofInt(top())
	for _, x := range []struct{ right, up num }{
		{along(least), upward(least)}, {along(greatest), upward(greatest)}, {num{one(), least}, in(1, 0)}, {in(1, 0), num{one(), opposite(least)}}, {num{least, one()}, in(0, 1)}, {num{greatest, one()}, along(opposite(greatest))},
	} {
		if !wantLaid(t, "a grid that is not flat", in(0, 0), x.right, x.up, 1, 1) {
			t.Error("a grid that is not flat does not fit")
		}
	}
}

// A point that is too big is refused, one that comes up on the way alone is not.
func TestNewRefusesWhatIsTooBig(t *testing.T) { // P26.1
	most, edge := ofInt(top()), ofInt(twos(8*api.MaxWhole-1))
	least := opposite(most)
	seen := tally{}
	for _, x := range []struct {
		at0, right, up num
		w, h           int
		fits           bool
	}{
		{along(most), in(-1, 0), in(0, 1), 3, 3, true}, {along(most), in(1, 0), in(0, 1), 1, 1, false}, {along(most), upward(one()), in(-1, 0), 1, 1, true}, {along(most), upward(one()), in(1, 0), 1, 1, false},
		// Twice the step is too big, what is told is not.
		{along(least), along(most), in(0, 1), 2, 1, true}, {along(least), along(most), in(0, 1), 3, 1, false}, {upward(least), in(1, 0), upward(most), 1, 2, true}, {upward(least), in(1, 0), upward(most), 1, 3, false},
		{num{least, one()}, num{most, one()}, num{most, none()}, 1, 1, true}, {num{least, one()}, num{most, one()}, num{most, none()}, 2, 1, false},
		{along(edge), along(edge), in(0, 1), 1, 1, false}, {in(0, 0), along(edge), in(0, 1), 1, 1, true}, {in(0, 0), along(edge), in(0, 1), 2, 1, false}, {in(0, 0), in(1, 0), upward(edge), 1, 1, true}, {in(0, 0), in(1, 0), upward(edge), 1, 2, false},
		// The last point alone.
		{in(0, 0), along(ofInt(twos(8186))), upward(one()), 63, 2, true}, {in(0, 0), along(ofInt(twos(8186))), upward(one()), 64, 2, false},
		{in(0, 0), along(ofInt(twos(8185))), num{ofInt(twos(8185)), one()}, 63, 64, true}, {in(0, 0), along(ofInt(twos(8185))), num{ofInt(twos(8185)), one()}, 64, 64, false},
		// Below the line.
		{along(under(top())), along(under(top())), in(0, 1), 64, 1, true}, {along(under(top())), along(rat(1, 2)), in(0, 1), 1, 1, false}, {along(under(edge.Num())), along(rat(1, 2)), in(0, 1), 3, 5, true}, {along(under(edge.Num())), along(rat(1, 2)), in(0, 1), 4, 5, false}, {along(under(edge.Num())), along(rat(1, 3)), in(0, 1), 1, 1, false},
		{along(rat(1, 2)), in(1, 0), upward(under(top())), 1, 1, true},
		// Too big but for lowest terms.
		{along(ratio(top(), big.NewInt(2))), along(rat(1, 2)), in(0, 1), 1, 1, true}, {along(ratio(top(), big.NewInt(2))), along(rat(1, 2)), in(0, 1), 2, 1, false},
	} {
		if fits := wantLaid(t, "a grid at the bound", x.at0, x.right, x.up, x.w, x.h); fits != x.fits {
			t.Errorf("a grid at the bound, %d by %d: fits %v", x.w, x.h, fits)
		} else if fits {
			seen["fits"]++
		} else {
			seen["too big"]++
		}
	}
	r := rand.New(rand.NewSource(2622))
	for n := range 40 {
		// Denominators that come together.
		if wantLaid(t, "a long grid", longNum(r, 320+n), longNum(r, 320+n), longNum(r, 320+n), 1+n%2, 1+n%3) {
			seen["fits"]++
		} else {
			seen["too big"]++
		}
	}
	seen.least(t, 10, "fits", "too big")
	// Parts as long as may be, all points among them.
	den := full(r, api.MaxWhole)
	share := func() num { return num{ratio(full(r, 1023), den), ratio(full(r, 1023), den)} }
	if !wantLaid(t, "a grid of long parts", share(), share(), share(), 9, 8) {
		t.Error("a grid of long parts does not fit")
	}
}

func TestOf(t *testing.T) { // P26.1
	for _, g := range nets() {
		got, e := grid.Of(g.w, g.h, g.points()...)
		wantGrid(t, "Of", got, e, g)
	}
	same := listed(2, 2, slices.Repeat([]spot{far()}, 9)...)
	got, e := grid.Of(2, 2, same.points()...)
	wantGrid(t, "a grid of infinity alone", got, e, same)
	r := rand.New(rand.NewSource(2623))
	wild := listed(1, 1, at(longNum(r, 1024)), at(num{ofInt(top()), under(top())}), far(), at(longNum(r, 1024)))
	got, e = grid.Of(1, 1, wild.points()...)
	wantGrid(t, "a grid of long points", got, e, wild)
}

// As many points as may be are more than api.MaxList.
func TestOfAtTheBound(t *testing.T) { // P26.1
	for _, x := range [][2]int{{64, 64}, {64, 1}, {1, 64}, {63, 64}, {64, 63}} {
		g := laid(in(3, 1), parts(1, 2, 1, 3), in(-1, 2), x[0], x[1]).with(7, far())
		got, e := grid.Of(g.w, g.h, g.points()...)
		wantGrid(t, "a grid as great as may be", got, e, g)
	}
	wrong := wrongPoints()
	for _, x := range [][2]int{{65, 1}, {1, 65}, {65, 64}, {64, 65}, {65, 65}, {128, 3}, {2047, 1}, {1, 5000}} {
		l := slices.Repeat([]api.Point{on(1, 2).point()}, (x[0]+1)*(x[1]+1))
		got, e := grid.Of(x[0], x[1], l...)
		wantNoGrid(t, "a grid greater than may be", got, e, api.ErrLong)
		got, e = grid.Of(x[0], x[1], l[1:]...)
		wantNoGrid(t, "a grid greater than may be, a point short", got, e, api.ErrArg)
		got, e = grid.Of(x[0], x[1], append(l, l[0])...)
		wantNoGrid(t, "a grid greater than may be, a point too many", got, e, api.ErrArg)
		for n, p := range wrong[:9] {
			for _, k := range []int{0, len(l) - 1, n * len(l) / 10} {
				spoilt := slices.Clone(l)
				spoilt[k] = p
				got, e = grid.Of(x[0], x[1], spoilt...)
				wantNoGrid(t, "a grid greater than may be with a wrong point", got, e, api.ErrArg)
			}
		}
	}
}

func TestOfRefusesCounts(t *testing.T) { // P26.1
	p := on(1, 1).point()
	list := func(n int) []api.Point { return slices.Repeat([]api.Point{p}, n) }
	for w := 1; w <= 6; w++ {
		for h := 1; h <= 6; h++ {
			for n := range 60 {
				got, e := grid.Of(w, h, list(n)...)
				if n != (w+1)*(h+1) {
					wantNoGrid(t, "a grid of another number of points", got, e, api.ErrArg)
				} else if got == nil || e != api.OK {
					t.Fatalf("%d points of %d by %d: %v", n, w, h, e)
				}
			}
		}
	}
	for _, n := range []int{0, 1, 2, 4, 6, 4225} {
		for _, side := range []int{0, -1, -2, -3, -65, math.MinInt, math.MinInt + 1} {
			for _, x := range [][2]int{{side, 1}, {1, side}, {side, side}, {side, 65}, {side, math.MaxInt}, {math.MaxInt, side}, {side, -side}} {
				got, e := grid.Of(x[0], x[1], list(n)...)
				wantNoGrid(t, "a grid without squares", got, e, api.ErrArg)
			}
		}
		// What w + 1 times h + 1 is, if it wraps round: 0, 1, 2, 4 among others.
		for _, x := range [][2]int{
			{math.MaxInt, math.MaxInt}, {math.MaxInt, 1}, {1, math.MaxInt}, {math.MaxInt, 3}, {1<<32 - 1, 1<<32 - 1}, {1<<62 - 1, 3}, {3, 1<<62 - 1}, {1<<31 - 1, 1<<33 - 1},
			{math.MaxInt / 3, 2}, {2, math.MaxInt / 3}, {math.MaxInt - 1, math.MaxInt - 1}, {math.MaxInt - 1, 1}, {1 << 32, 1 << 32}, {1<<62 + 1, 3}, {1<<62 + 1, 1}, {1<<62 - 1, 1},
		} {
			got, e := grid.Of(x[0], x[1], list(n)...)
			wantNoGrid(t, "a grid with huge sides", got, e, api.ErrArg)
		}
	}
	got, e := grid.Of(1, 1)
	wantNoGrid(t, "a grid of no points", got, e, api.ErrArg)
	got, e = grid.Of(1, 1, []api.Point{}...)
	wantNoGrid(t, "a grid of an empty list", got, e, api.ErrArg)
}

func TestOfRefusesWrongPoints(t *testing.T) { // P26.1
	for _, p := range wrongPoints() {
		for k := range 6 {
			l := unit().points()
			l[k] = p
			got, e := grid.Of(2, 1, l...)
			wantNoGrid(t, "a grid with a wrong point", got, e, api.ErrArg)
			l[(k+1)%6] = p
			got, e = grid.Of(2, 1, l...)
			wantNoGrid(t, "a grid with two wrong points", got, e, api.ErrArg)
		}
	}
}

// A wrap-round of 64 bits that would leave just so many points as there are.
func TestCountsThatWrap(t *testing.T) { // P26.1
	modulus, asked := twos(64), 0
	for count := int64(4); count <= 12; count++ {
		for _, across := range []int64{3, 5, 7, 9, 11, 13} {
			inverse := new(big.Int).ModInverse(big.NewInt(across), modulus)
			rows := new(big.Int).Mod(new(big.Int).Mul(inverse, big.NewInt(count)), modulus)
			h := new(big.Int).Sub(rows, big.NewInt(1))
			if !h.IsInt64() || h.Int64() <= api.MaxSide {
				continue
			}
			asked++
			l := slices.Repeat([]api.Point{on(0, 0).point()}, int(count))
			got, e := grid.Of(int(across-1), int(h.Int64()), l...)
			wantNoGrid(t, "a grid whose count wraps round", got, e, api.ErrArg)
			got, e = grid.Of(int(h.Int64()), int(across-1), l...)
			wantNoGrid(t, "a grid whose count wraps round", got, e, api.ErrArg)
		}
	}
	if asked < 10 {
		t.Errorf("asked just %d times", asked)
	}
}
