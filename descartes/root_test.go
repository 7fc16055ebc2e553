package descartes_test

import (
	"math/big"
	"math/rand"
	"slices"
	"testing"

	"tracery/api"
	"tracery/descartes"
)

// wantRooted wants what P20.6 says of four that touch each other.
func wantRooted(t *testing.T, f quad) ([]int, api.Errno) {
	t.Helper()
	g, places, e := descartes.Root(f.disks())
	wanted, way, wrong := f.root()
	wantRoot(t, "Root", g, places, e, wanted, way, wrong)
	return places, e
}

func TestRoot(t *testing.T) { // P20.6
	seen := tally{}
	quads(2070, 80, func(f quad) {
		for _, f := range []quad{f, f.out(), {f[3], f[0], f[2], f[1]}} {
			way, e := wantRooted(t, f)
			seen.when("not above 0", e == api.ErrNone)
			seen.when("at its root", e == api.OK && len(way) == 0)
			seen.when("a descent", len(way) > 2)
			seen.when("too many steps", e == api.ErrLong)
		}
	})
	seen.least(t, 3, "not above 0", "at its root", "a descent", "too many steps")
}

func TestRootExamples(t *testing.T) { // P20.6
	root := func(what string, f, wanted quad, way ...int) {
		t.Helper()
		g, places, e := descartes.Root(f.disks())
		wantRoot(t, what, g, places, e, wanted, way, api.OK)
	}
	root("the four", knot(), knot())
	root("changed at 0", knot().changed(0), knot(), 0)
	root("changed at 0 and 1", knot().changed(0, 1), knot(), 1, 0)
	root("changed at 3, whose Bend stays", knot().changed(3), knot().changed(3))
	root("the strip", strip(), strip()) // two with one greatest Bend
	root("the strip, the greatest ones first", quad{strip()[2], strip()[3], strip()[0], strip()[1]}, quad{strip()[2], strip()[3], strip()[0], strip()[1]})
	root("the strip changed at both lines", strip().changed(0, 1), strip(), 1, 0)
	root("along a row", knot().row(4), knot(), 3, 2, 3, 2)
	root("along a row, by one step more", knot().row(5), quad{o(), a(), c(), b()}, 3, 2, 3, 2, 3)
	root("over the fractions", ford(4), fordAt(new(big.Int)), 3, 2, 3, 2)
	g, places, e := descartes.Root(knot().out().disks())
	wantRoot(t, "all inside out", g, places, e, quad{}, nil, api.ErrNone)
	g, places, e = descartes.Root(strip().out().disks())
	wantRoot(t, "the strip inside out", g, places, e, quad{}, nil, api.ErrNone)
}

// What is changed so that each Bend grows is led back, the last place first.
func TestRootLeadsBack(t *testing.T) { // P20.6, P20.9
	r := rand.New(rand.NewSource(2071))
	for n := range 30 {
		f, way := knot(), []int{}
		if n%2 == 0 {
			f = strip()
		}
		start := f
		for len(way) < 10*n {
			i := r.Intn(4)
			if g := f.changed(i); g[i].bend.Cmp(f[i].bend) > 0 && g[i].bend.Cmp(g[(i+1)%4].bend) > 0 && g[i].bend.Cmp(g[(i+2)%4].bend) > 0 && g[i].bend.Cmp(g[(i+3)%4].bend) > 0 {
				f, way = g, append(way, i)
			}
		}
		slices.Reverse(way)
		g, places, e := descartes.Root(f.disks())
		wantRoot(t, "Root", g, places, e, start, way, api.OK)
	}
}

func TestRootAtTheBound(t *testing.T) { // P20.6
	way := slices.Repeat([]int{3, 2}, api.MaxList/2)
	g, places, e := descartes.Root(knot().row(api.MaxList).disks())
	wantRoot(t, "a descent of MaxList steps", g, places, e, knot(), way, api.OK)
	way = way[:api.MaxList-1]
	g, places, e = descartes.Root(knot().row(api.MaxList - 1).disks())
	wantRoot(t, "a descent of one step less", g, places, e, quad{o(), a(), c(), b()}, way, api.OK)
	for _, n := range []int64{1, 2, 1000, 1 << 30} {
		g, places, e = descartes.Root(knot().row(api.MaxList + n).disks())
		wantRoot(t, "a descent of more steps", g, places, e, quad{}, nil, api.ErrLong)
	}
	g, places, e = descartes.Root(fordAt(twos(4000)).disks())
	wantRoot(t, "a descent of very many steps", g, places, e, quad{}, nil, api.ErrLong)
}

// falling answers four that touch each other whose descent goes along a row,
// from the disk high on: the disk that the step k brings is the first one that
// is too big, since Co gets greater while Bend gets less.
func falling(t *testing.T, high, k int64) quad {
	t.Helper()
	n := high + 1
	co := big.NewInt(2 * (k + 2) * (k + 2)) // of the disk high - 1 - k, without what makes it long
	long := more(new(big.Int).Div(top(), co), 1)
	by := new(big.Int).Mul(long, big.NewInt(n*n))
	shown := func(f quad) quad {
		return stretch(flat(ofInt(by))).images(slide(flat(rat(-1, n))).images(f))
	}
	low := shown(ford(high - 1 - k)) // of which the third one is the first that is too big
	if f := shown(ford(high - k)); low[2].fits() || !low[3].fits() || !f.fits() || !f.touch() {
		t.Fatal("the row is another one")
	}
	f := shown(ford(high - 1))
	if !f.fits() {
		t.Fatal("the row begins too long")
	}
	return f
}

func TestRootTooBig(t *testing.T) { // P20.6
	refused := func(what string, f quad, wanted api.Errno) {
		t.Helper()
		g, places, e := descartes.Root(f.disks())
		wantRoot(t, what, g, places, e, quad{}, nil, wanted)
	}
	refused("too big by the first step", split(), api.ErrBig)
	wantRooted(t, split())
	for k := int64(1); k < 9; k++ {
		f := falling(t, k+2, k)
		wantRooted(t, f)
		refused("too big on the way", f, api.ErrBig)
	}
	most := int64(api.MaxList)
	refused("too big by a late step", falling(t, 5000, most-1), api.ErrBig)
	refused("too big by the last step", falling(t, 5000, most), api.ErrBig)
	refused("too big behind the last step", falling(t, 5000, most+1), api.ErrLong)
	refused("too big far behind the last step", falling(t, 5000, most+300), api.ErrLong)
}

// What no step brings is not asked for its length.
func TestRootThatStays(t *testing.T) { // P20.6
	by := ofInt(new(big.Int).Div(top(), big.NewInt(5)))
	for _, f := range []quad{
		stretch(flat(by)).images(strip()), slide(flat(ofInt(more(root(), -9)))).images(strip()),
		slide(flat(ofInt(new(big.Int).Div(root(), big.NewInt(2))))).images(quad{strip()[3], strip()[0], strip()[1], strip()[2]}),
	} {
		if !f.fits() {
			t.Fatal("the four are too long")
		}
		wantRooted(t, f)
		g, places, e := descartes.Root(f.disks())
		wantRoot(t, "Root", g, places, e, f, nil, api.OK)
	}
	f := slide(flat(ofInt(more(root(), -3)))).images(strip())
	if !f.fits() || f.changed(2).fits() == f.changed(3).fits() {
		t.Fatal("just one of two is to be too long")
	}
	wantRooted(t, f)
	wantRooted(t, quad{f[0], f[1], f[3], f[2]})
}

func TestRootRefuses(t *testing.T) { // P20.6
	refused := func(what string, f [4]api.Disk, wanted api.Errno) {
		t.Helper()
		g, places, e := descartes.Root(f)
		wantRoot(t, what, g, places, e, quad{}, nil, wanted)
	}
	for n, d := range wrongDisks() {
		for _, f := range []quad{knot(), knot().out(), {a(), a(), a(), a()}} {
			g := f.disks()
			g[n%4] = d
			refused("a wrong disk", g, api.ErrArg)
		}
	}
	half := balled(0, 1, 0, 0)
	for _, f := range []quad{
		{a(), a(), a(), a()}, {o(), o(), o(), o()}, {half, half, half, half}, {half, half.out(), half, half.out()},
		{o(), o().out(), a(), a().out()}, knot().with(3, about(in(9, 9), rat(1, 1))), knot().with(0, o().out()), knot().out().with(2, b()), {o(), a(), b(), b()},
	} {
		refused("some that do not touch", f.disks(), api.ErrTouch)
	}
	refused("none", [4]api.Disk{}, api.ErrArg)
	l := longs()
	refused("long ones", quad{l[0], l[1], l[2], l[3]}.disks(), api.ErrTouch)
}
