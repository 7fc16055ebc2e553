package descartes_test

import (
	"math/big"
	"math/rand"
	"slices"
	"testing"

	"tracery/api"
	"tracery/descartes"
)

func wantSwaps(t *testing.T, f quad, l ...int) {
	t.Helper()
	g, e := descartes.Swaps(f.disks(), l...)
	wanted, wrong := f.swaps(l...)
	wantFour(t, "Swaps", g, e, wanted, wrong)
	if len(l) == 1 {
		g, e = descartes.Swap(f.disks(), l[0])
		wantFour(t, "Swap", g, e, wanted, wrong)
	}
}

func TestSwap(t *testing.T) { // P20.5
	quads(2050, 300, func(f quad) {
		for i := range f {
			wantSwaps(t, f, i)
			wantSwaps(t, f, i, i)
			wantSwaps(t, f, i, (i+1)%4, i)
		}
		wantSwaps(t, f)
	})
	g, e := descartes.Swap(knot().disks(), 0)
	want(t, "the bend that comes for o's", g[0].Bend, e, over(15, 1))
	want(t, "what comes for o", g[0], e, about(parts(0, 1, 4, 15), rat(1, 15)).disk())
	if f := knot().disks(); g[1] != f[1] || g[2] != f[2] || g[3] != f[3] {
		t.Error("Swap has changed another one, too")
	}
	g, e = descartes.Swap(strip().disks(), 0)
	want(t, "what comes for a line", g[0], e, balled(4, 4, 7, 16).disk())
	g, e = descartes.Swap(g, 0)
	wantFour(t, "Swap twice", g, e, strip(), api.OK)
}

func TestSwapsOfMany(t *testing.T) { // P20.5
	r := rand.New(rand.NewSource(2051))
	for n := range 20 {
		var l []int
		for range n * 10 {
			l = append(l, r.Intn(4))
		}
		wantSwaps(t, knot(), l...)
		wantSwaps(t, oddQuad(r, 2), l...)
	}
	// All four in turn make the numbers grow as fast as they can: MaxList times
	// are not too many for short ones.
	round := slices.Repeat([]int{0, 1, 2, 3}, api.MaxList/4)
	wantSwaps(t, knot(), round...)
	wantSwaps(t, strip(), slices.Repeat([]int{2, 3}, api.MaxList/2)...)
	back := slices.Concat(round[:api.MaxList/2], reversed(round[:api.MaxList/2]))
	g, e := descartes.Swaps(knot().disks(), back...)
	wantFour(t, "there and back", g, e, knot(), api.OK)
}

func reversed(l []int) []int {
	l = slices.Clone(l)
	slices.Reverse(l)
	return l
}

func TestSwapsTooBig(t *testing.T) { // P20.5
	f := split()
	if !f.fits() || !f.touch() || f.changed(3).fits() {
		t.Fatal("they are to get too big")
	}
	for _, l := range [][]int{{3}, {3, 3}, {3, 3, 2}, {2, 2, 3, 3}, {0, 0, 3, 3}} {
		if _, e := f.swaps(l...); e != api.ErrBig {
			t.Fatal("they are to get too big")
		}
		wantSwaps(t, f, l...)
	}
	r := rand.New(rand.NewSource(2052))
	seen := tally{}
	for n := range 8 {
		for _, g := range []quad{
			slide(flat(ofInt(full(r, 508+n/2)))).images(knot()),
			stretch(flat(fullRat(r, 1021+n/2))).images(knot()),
			slide(num{fullRat(r, 254+n/4), rat(-2, 3)}).images(strip()),
		} {
			if !g.fits() {
				continue
			}
			for _, l := range [][]int{{0}, {1, 1}, {0, 1, 2, 3, 3, 2, 1, 0}, {2, 3, 2, 3}, slices.Repeat([]int{0, 1, 2, 3}, 8)} {
				_, e := g.swaps(l...)
				seen.fit(e == api.OK)
				wantSwaps(t, g, l...)
			}
		}
	}
	seen.least(t, 10, "fits", "too big")
}

func TestSwapsRefuse(t *testing.T) { // P20.5
	f, loose := knot().disks(), knot().with(2, about(in(50, 0), rat(1, 1))).disks()
	twice := [4]api.Disk{f[0], f[1], f[2], f[2]}
	refused := func(what string, f [4]api.Disk, wanted api.Errno, l ...int) {
		t.Helper()
		g, e := descartes.Swaps(f, l...)
		wantNone(t, "Swaps of "+what, g, e, wanted)
		if len(l) == 1 {
			g, e = descartes.Swap(f, l[0])
			wantNone(t, "Swap of "+what, g, e, wanted)
		}
	}
	for _, i := range wrongPlaces() {
		for _, g := range [][4]api.Disk{f, loose, {}, split().disks()} {
			refused("a wrong place", g, api.ErrArg, i)
			refused("a wrong place behind others", g, api.ErrArg, 3, 3, i)
			refused("a wrong place ahead of others", g, api.ErrArg, i, 3)
		}
	}
	for n, d := range wrongDisks() {
		g := f
		g[n%4] = d
		refused("a wrong disk", g, api.ErrArg, n%4)
		refused("a wrong disk elsewhere", g, api.ErrArg, (n+1)%4)
		refused("a wrong disk, nowhere", g, api.ErrArg)
		g = loose
		g[n%4] = d
		refused("a wrong disk among such as do not touch", g, api.ErrArg, 1, 2)
	}
	for i := range 4 {
		refused("some that do not touch", loose, api.ErrTouch, i)
		refused("the same one twice", twice, api.ErrTouch, i, i)
		refused("one inside out", knot().with(i, knot()[i].out()).disks(), api.ErrTouch, i)
		g := quad{longs()[0], longs()[2], longs()[3], longs()[5]}.disks()
		refused("long ones that do not touch", g, api.ErrTouch, i)
	}
	refused("some that do not touch, nowhere", loose, api.ErrTouch)
	refused("one and itself inside out", quad{a(), a().out(), b(), c()}.disks(), api.ErrTouch, 3)
	many := make([]int, api.MaxList+1)
	refused("too many places", f, api.ErrLong, many...)
	refused("too many places of none", [4]api.Disk{}, api.ErrLong, many...)
	refused("too many places of some that do not touch", loose, api.ErrLong, many...)
	many[7] = 9
	refused("too many places, a wrong one among them", f, api.ErrLong, many...)
	refused("far too many places", f, api.ErrLong, make([]int, 100000)...)
	refused("a wrong place among MaxList", f, api.ErrArg, many[:api.MaxList]...)
	refused("MaxList places of none", [4]api.Disk{}, api.ErrArg, make([]int, api.MaxList)...)
	refused("MaxList places of some that do not touch", loose, api.ErrTouch, make([]int, api.MaxList)...)
}

func wantRule(t *testing.T, f quad) [3]bool {
	t.Helper()
	bends, mids, both, e := descartes.Rule(f.disks())
	want(t, "Rule", [3]bool{bends, mids, both}, e, f.rule())
	return f.rule()
}

func TestRule(t *testing.T) { // P20.8
	seen := tally{}
	see := func(f quad) {
		t.Helper()
		got := wantRule(t, f)
		for k, name := range []string{"Bends", "Mids", "both"} {
			seen.when(name, got[k])
			seen.when("no "+name, !got[k])
		}
		seen.when("Bends alone", got == [3]bool{true, false, false})
		seen.when("Mids alone", got == [3]bool{false, true, false})
		seen.when("both alone", got == [3]bool{false, false, true})
	}
	quads(2060, 200, func(f quad) {
		see(f)
		if f.rule() != [3]bool{true, true, true} {
			t.Fatal("four that touch do not keep the rule")
		}
		see(f.with(1, f[1].out()))
		see(f.with(2, f[3]))
		see(quad{f[0], f[1].slid(in(1, 0)), f[2], f[3]}) // with the same Bends
	})
	l := grains()
	r := rand.New(rand.NewSource(2061))
	for range 3000 {
		see(quad{l[r.Intn(len(l))], l[r.Intn(len(l))], l[r.Intn(len(l))], l[r.Intn(len(l))]})
	}
	unit, up := balled(0, 1, 0, 3), balled(0, 0, 1, 0)
	for _, f := range []quad{
		{unit, unit, unit, unit}, {unit, unit, up, up}, {unit, balled(0, -1, 0, 1), up, balled(0, 0, -1, 1)}, {up, up, up, balled(0, 0, -1, 3)},
		{o(), o().out(), o(), o().out()}, {a(), b(), a(), b()}, {a(), a(), a(), a()}, {o(), o(), o(), a()}, {about(in(0, 0), rat(1, 2)), o(), o(), o()},
	} {
		see(f)
	}
	seen.least(t, 1, "Bends alone", "Mids alone", "both alone")
	seen.least(t, 50, "Bends", "Mids", "both", "no Bends", "no Mids", "no both")
}

func TestRuleLong(t *testing.T) { // P20.8
	r := rand.New(rand.NewSource(2062))
	l := longs()
	for range 6 {
		wantRule(t, quad{l[r.Intn(len(l))], l[r.Intn(len(l))], l[r.Intn(len(l))], l[r.Intn(len(l))]})
	}
	for _, m := range []chart{stretch(flat(fullRat(r, 1023))), slide(flat(fullRat(r, 254))), stretch(fullUnit(r, 510)), round(in(0, 0), fullUnit(r, 120), in(2, 0))} {
		for _, f := range []quad{knot(), strip().row(5), knot().out()} {
			f = m.images(f)
			if !f.fits() {
				t.Fatal("the four are too long")
			}
			if wantRule(t, f) != [3]bool{true, true, true} {
				t.Fatal("four that touch do not keep the rule")
			}
			wantRule(t, f.with(0, f[0].out()))
			wantRule(t, f.with(3, l[r.Intn(len(l))]))
		}
	}
	// The last bit of one number: Co says nothing, all others do.
	half := quad{{none(), in(1, 0), ofInt(top())}, {none(), in(-1, 0), none()}, {none(), in(1, 0), none()}, {none(), in(-1, 0), under(top())}}
	wantRule(t, half)
	wantRule(t, half.with(2, ball{under(top()), in(1, 0), none()}))
	wantRule(t, half.with(1, ball{ofInt(new(big.Int).Neg(top())), in(-1, 0), none()}))
}

func TestRuleRefuses(t *testing.T) { // P20.8
	for n, d := range wrongDisks() {
		for _, f := range []quad{knot(), {a(), a(), a(), a()}} {
			g := f.disks()
			g[n%4] = d
			bends, mids, both, e := descartes.Rule(g)
			wantNone(t, "Rule of a wrong disk", [3]bool{bends, mids, both}, e, api.ErrArg)
		}
	}
}
