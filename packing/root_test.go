package packing_test

import (
	"math"
	"math/big"
	"math/rand"
	"slices"
	"testing"

	"tracery/api"
	"tracery/packing"
)

func wantAt(t *testing.T, f quad, swaps ...int) api.Errno {
	t.Helper()
	g, e := packing.At(f.disks(), swaps...)
	wanted, wrong := f.at(swaps...)
	wantFour(t, "At", g, e, wanted, wrong)
	return e
}

// someRow makes so many swaps in a row.
func someRow(r *rand.Rand, count int) []int {
	var row []int
	for len(row) < count {
		if i := r.Intn(4); len(row) == 0 || row[len(row)-1] != i {
			row = append(row, i)
		}
	}
	return row
}

func TestAt(t *testing.T) { // P21.4
	r := rand.New(rand.NewSource(2130))
	quads(t, 2131, 60, func(f quad) {
		wantAt(t, f)
		for i := range 4 {
			wantAt(t, f, i)
			wantAt(t, f, i, (i+1)%4, i)
		}
		wantAt(t, f, someRow(r, 30)...)
	})
	g, e := packing.At(knot().disks(), 0)
	want(t, "the bends", [4]api.Frac{g[0].Bend, g[1].Bend, g[2].Bend, g[3].Bend}, e, [4]api.Frac{over(15, 1), over(2, 1), over(2, 1), over(3, 1)})
	g, e = packing.At(knot().disks())
	want(t, "At of no swaps", g, e, knot().disks())
	g, e = packing.At(strip().disks(), []int{}...)
	want(t, "At of no swaps", g, e, strip().disks())
}

func TestAtOfMany(t *testing.T) { // P21.4
	round := slices.Repeat([]int{0, 1, 2, 3}, api.MaxList/4)
	if e := wantAt(t, knot(), round...); e != api.OK {
		t.Errorf("MaxList swaps that make the numbers grow: %v", e)
	}
	along := slices.Repeat([]int{2, 3}, api.MaxList/2)
	g, e := packing.At(knot().disks(), along...)
	wantFour(t, "MaxList swaps along a row", g, e, knot().row(api.MaxList), api.OK)
	g, e = packing.At(knot().disks(), append(along, 2)...)
	wantNone(t, "one swap more", g, e, api.ErrArg)
	g, e = packing.At(knot().disks(), append(round, 0)...)
	wantNone(t, "one swap more", g, e, api.ErrArg)
	g, e = packing.At(knot().disks(), slices.Repeat(along, 50)...)
	wantNone(t, "far more swaps", g, e, api.ErrArg)
	g, e = packing.At(knot().scaled(shared(top(), 14)).disks(), append(round, 0)...)
	wantNone(t, "one swap more of what gets too big", g, e, api.ErrArg)
}

func TestAtTooBig(t *testing.T) { // P21.4
	r := rand.New(rand.NewSource(2132))
	seen := tally{}
	for _, f := range growing(t) {
		for _, n := range []int{0, 1, 2, 5, 9} {
			e := wantAt(t, f, someRow(r, n)...)
			seen.when("too big", e == api.ErrBig)
			seen.when("fits", e == api.OK && n > 0)
		}
	}
	seen.least(t, 50, "too big", "fits")
	f := gap(t, 0)
	if g := f.changed(2, 3, 2); !g.fits() {
		t.Fatal("what comes behind is to fit")
	}
	for _, l := range [][]int{{2}, {2, 3}, {2, 3, 2}} {
		if e := wantAt(t, f, l...); e != api.ErrBig {
			t.Errorf("%v: what is too big on the way is %v", l, e)
		}
	}
}

func TestAtRefuses(t *testing.T) { // P21.4
	refused := func(what string, f [4]api.Disk, swaps ...int) {
		t.Helper()
		g, e := packing.At(f, swaps...)
		wantNone(t, what, g, e, api.ErrArg)
	}
	f, big := knot().disks(), knot().scaled(shared(top(), 14)).disks()
	for _, i := range []int{-1, 4, 5, -4, 7, 256, 1 << 32, 1<<32 + 1, -1 << 32, math.MaxInt, math.MinInt} {
		refused("a wrong number", f, i)
		refused("a wrong number behind others", f, 0, 1, i)
		refused("a wrong number ahead of others", f, i, 1, 0)
		refused("a wrong number, of what gets too big", big, 0, 1, i)
	}
	for i := range 4 {
		refused("the same twice", f, i, i)
		refused("the same twice ahead of others", f, i, i, (i+1)%4)
		refused("the same twice behind others", f, (i+1)%4, (i+2)%4, i, i)
		refused("the same twice, of what gets too big", big, 0, (i+1)%4, i, i)
	}
	for _, g := range wrongFours() {
		refused("wrong ones", g)
		refused("wrong ones, swapped", g, 0, 3, 1)
	}
	for _, wrong := range [][]int{slices.Repeat([]int{1}, api.MaxList), append(slices.Repeat([]int{1, 2}, api.MaxList/2-1), 1, 1)} {
		refused("the same twice among MaxList", f, wrong...)
	}
}

// wantRooted wants what P21.4 says of four that touch each other.
func wantRooted(t *testing.T, f quad) ([]int, api.Errno) {
	t.Helper()
	g, swaps, e := packing.Root(f.disks())
	wanted, way, wrong := f.root()
	wantRoot(t, "Root", g, swaps, e, wanted, way, wrong)
	return swaps, e
}

func TestRoot(t *testing.T) { // P21.4
	seen := tally{}
	quads(t, 2133, 25, func(f quad) {
		for _, f := range []quad{f, {f[3], f[0], f[2], f[1]}} {
			way, e := wantRooted(t, f)
			seen.when("not above 0", f.bends().Sign() <= 0)
			seen.when("at its root", e == api.OK && len(way) == 0)
			seen.when("a descent", len(way) > 2)
		}
	})
	seen.least(t, 3, "not above 0", "at its root", "a descent")
}

func TestRootExamples(t *testing.T) { // P21.4
	root := func(what string, f, wanted quad, way ...int) {
		t.Helper()
		g, swaps, e := packing.Root(f.disks())
		wantRoot(t, what, g, swaps, e, wanted, way, api.OK)
	}
	root("the four", knot(), knot())
	root("swapped at 0", knot().changed(0), knot(), 0)
	root("swapped at 0 and 1", knot().changed(0, 1), knot(), 1, 0)
	root("swapped at 3, whose Bend stays", knot().changed(3), knot().changed(3))
	root("the strip", strip(), strip())
	root("the strip swapped at both lines", strip().changed(0, 1), strip(), 1, 0)
	root("along a row", knot().row(4), knot(), 3, 2, 3, 2)
	root("along a row, by one swap more", knot().row(5), quad{o(), a(), c(), b()}, 3, 2, 3, 2, 3)
}

func TestRootLeadsBack(t *testing.T) { // P21.4
	r := rand.New(rand.NewSource(2134))
	for n := range 30 {
		start := []quad{knot(), strip(), {b(), c(), o(), a()}}[n%3]
		f, way := start, []int{}
		for len(way) < 7*n {
			i := r.Intn(4)
			if g := f.changed(i); g[i].bend.Cmp(f[i].bend) > 0 {
				f, way = g, append(way, i)
			}
		}
		slices.Reverse(way)
		g, swaps, e := packing.Root(f.disks())
		wantRoot(t, "Root", g, swaps, e, start, way, api.OK)
	}
}

func TestRootAtTheBound(t *testing.T) { // P21.4
	way := slices.Repeat([]int{3, 2}, api.MaxList/2)
	g, swaps, e := packing.Root(knot().row(api.MaxList).disks())
	wantRoot(t, "a descent of MaxList swaps", g, swaps, e, knot(), way, api.OK)
	g, swaps, e = packing.Root(knot().row(api.MaxList - 1).disks())
	wantRoot(t, "a descent of one swap less", g, swaps, e, quad{o(), a(), c(), b()}, way[:api.MaxList-1], api.OK)
	for _, n := range []int64{1, 2, 1000, 1 << 30} {
		g, swaps, e = packing.Root(knot().row(api.MaxList + n).disks())
		wantRoot(t, "a descent of more swaps", g, swaps, e, quad{}, nil, api.ErrPacked)
	}
	g, swaps, e = packing.Root(ford(twos(4000)).disks())
	wantRoot(t, "a descent of very many swaps", g, swaps, e, quad{}, nil, api.ErrPacked)
}

// Of a sum of bends that is not above 0 there is no end.
func TestRootInsideOut(t *testing.T) { // P21.4
	for _, f := range []quad{knot().out(), strip().out(), {c().out(), b().out(), o().out(), a().out()}} {
		g, swaps, e := packing.Root(f.disks())
		wantRoot(t, "Root, inside out", g, swaps, e, quad{}, nil, api.ErrPacked)
	}
	// The greatest magnitudes of the bends, swap by swap.
	f, most := knot().out(), []*big.Int{big.NewInt(3)}
	for range api.MaxList + 2 {
		first := slices.IndexFunc([]int{0, 1, 2, 3}, func(i int) bool { return f.changed(i)[i].bend.Cmp(f[i].bend) < 0 })
		f = f.changed(first)
		n := new(big.Int).Abs(f[first].bend.Num())
		if n.Cmp(most[len(most)-1]) <= 0 {
			t.Fatal("the bends are to grow")
		}
		most = append(most, n)
	}
	for _, k := range []int{1, 2, 3, 50, api.MaxList - 1, api.MaxList, api.MaxList + 1, api.MaxList + 2} {
		// What the swap k brings is the first one that is too big.
		g := knot().out().scaled(new(big.Int).Quo(top(), most[k-1]))
		wanted := api.ErrBig
		if k > api.MaxList {
			wanted = api.ErrPacked
		}
		h, swaps, e := packing.Root(g.disks())
		wantRoot(t, "Root of what gets too big", h, swaps, e, quad{}, nil, wanted)
		if k < 100 {
			wantRooted(t, g)
		}
	}
}

// falling answers four that touch each other whose descent goes along a row,
// from the disk high on: the disk that the swap k brings is the first one that
// is too big, since Co gets greater while Bend gets less.
func falling(t *testing.T, high, k int64) quad {
	t.Helper()
	n := high + 1
	co := big.NewInt(2 * (k + 2) * (k + 2)) // of the disk high - 1 - k, without what makes it long
	long := more(new(big.Int).Div(top(), co), 1)
	by := new(big.Int).Mul(long, big.NewInt(n*n))
	shown := func(m int64) quad {
		return ford(big.NewInt(m)).slid(flat(rat(-1, n))).stretched(flat(ofInt(by)))
	}
	low := shown(high - 1 - k) // of which the third one is the first that is too big
	if f := shown(high - k); low[2].fits() || !low[3].fits() || !f.fits() || !f.touch() {
		t.Fatal("the row is another one")
	}
	f := shown(high - 1)
	if !f.fits() {
		t.Fatal("the row begins too long")
	}
	return f
}

func TestRootTooBig(t *testing.T) { // P21.4
	refused := func(what string, f quad, wanted api.Errno) {
		t.Helper()
		g, swaps, e := packing.Root(f.disks())
		wantRoot(t, what, g, swaps, e, quad{}, nil, wanted)
	}
	for k := int64(1); k < 9; k++ {
		f := falling(t, k+2, k)
		wantRooted(t, f)
		refused("too big on the way", f, api.ErrBig)
	}
	most := int64(api.MaxList)
	refused("too big by a late swap", falling(t, 5000, most-1), api.ErrBig)
	refused("too big by the last swap", falling(t, 5000, most), api.ErrBig)
	refused("too big behind the last swap", falling(t, 5000, most+1), api.ErrPacked)
	refused("too big far behind the last swap", falling(t, 5000, most+300), api.ErrPacked)
	refused("too big on the way, then not", gap(t, 3), api.ErrBig)
}

// What no swap of the way brings is not asked for its length.
func TestRootThatStays(t *testing.T) { // P21.4
	for _, f := range []quad{
		strip().stretched(flat(ofInt(shared(top(), 5)))), strip().slid(flat(ofInt(more(root(), -9)))), knot().scaled(shared(top(), 3)), knot().scaled(shared(top(), 4)).stretched(parts(3, 5, 4, 5)),
	} {
		if !f.fits() || f.changed(0).fits() {
			t.Fatal("just what comes for the first one is to be too long")
		}
		g, swaps, e := packing.Root(f.disks())
		wantRoot(t, "Root", g, swaps, e, f, nil, api.OK)
	}
	for _, f := range growing(t)[3:] {
		if f.bends().Sign() > 0 {
			wantRooted(t, f)
		}
	}
}

func TestRootRefuses(t *testing.T) { // P21.4
	for _, f := range wrongFours() {
		g, swaps, e := packing.Root(f)
		wantRoot(t, "Root of wrong ones", g, swaps, e, quad{}, nil, api.ErrArg)
	}
}
