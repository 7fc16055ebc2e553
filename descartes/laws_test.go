package descartes_test

import (
	"math/rand"
	"slices"
	"testing"

	"tracery/api"
	"tracery/descartes"
	"tracery/mob"
)

// ok is for calls that refuse nothing here.
func ok[T any](t *testing.T) func(x T, e api.Errno) T {
	return func(x T, e api.Errno) T {
		t.Helper()
		if e != api.OK {
			t.Fatal(e)
		}
		return x
	}
}

func TestFourThatTouch(t *testing.T) { // P20.9
	swap, touch := ok[[4]api.Disk](t), ok[bool](t)
	quads(2080, 150, func(q quad) {
		f := q.disks()
		bends, mids, both, e := descartes.Rule(f)
		want(t, "Rule", [3]bool{bends, mids, both}, e, [3]bool{true, true, true})
		for i := range f {
			g := swap(descartes.Swap(f, i))
			if !touch(descartes.Touch(f[:]...)) || !touch(descartes.Touch(g[:]...)) {
				t.Fatal("the four do not touch each other")
			}
			if touch(descartes.Touch(f[i], g[i])) {
				t.Fatal("what it was changed for touches it")
			}
			if swap(descartes.Swap(g, i)) != f {
				t.Fatal("Swap twice does not lead back")
			}
			x, y, e := descartes.Fourth(f[(i+1)%4], f[(i+2)%4], f[(i+3)%4])
			wantError(t, "Fourth", e, api.OK)
			if (x != f[i] || y != g[i]) && (x != g[i] || y != f[i]) {
				t.Fatal("Fourth are others")
			}
			bends, mids, both, e := descartes.Rule(g)
			want(t, "Rule behind Swap", [3]bool{bends, mids, both}, e, [3]bool{true, true, true})
		}
	})
}

func TestProducts(t *testing.T) { // P20.9
	frac, disk := ok[api.Frac](t), ok[api.Disk](t)
	negated := func(x api.Frac) api.Frac {
		x.Num.Neg = !x.Num.Neg && x.Num.Mag != ""
		return x
	}
	r := rand.New(rand.NewSource(2081))
	l := append(grains(), longs()...)
	for range 2000 {
		c, d := l[r.Intn(len(l))].disk(), l[r.Intn(len(l))].disk()
		want(t, "a disk's product with itself", frac(descartes.Product(c, c)), api.OK, over(-1, 1))
		p, e := descartes.Product(c, d)
		q, f := descartes.Product(d, c)
		want(t, "Product the other way round", q, f-e, p)
		out := disk(descartes.Out(d))
		want(t, "a product with itself inside out", frac(descartes.Product(d, out)), api.OK, over(1, 1))
		q, f = descartes.Product(c, out)
		want(t, "Product with one inside out", q, f-e, negated(p))
	}
}

func TestImagesKeep(t *testing.T) { // P20.9
	frac, disk, touch := ok[api.Frac](t), ok[api.Disk](t), ok[bool](t)
	r := rand.New(rand.NewSource(2082))
	seen := tally{}
	for n := range 150 {
		m, f := oddChart(r, 1+n%4), oddQuad(r, 1+n%3)
		l := disksOf(append(f[:], oddBall(r, 2), oddBall(r, 2))...)
		var images []api.Disk
		for _, d := range l {
			images = append(images, disk(descartes.Image(m.mob(), d)))
			back := disk(descartes.Image(ok[api.Mob](t)(mob.Inverse(m.mob())), images[len(images)-1]))
			want(t, "Image back", back, api.OK, d)
		}
		for i := range l {
			for j := range l {
				want(t, "the product of images", frac(descartes.Product(images[i], images[j])), api.OK, frac(descartes.Product(l[i], l[j])))
				if i != j {
					both := touch(descartes.Touch(l[i], l[j]))
					want(t, "Touch of images", touch(descartes.Touch(images[i], images[j])), api.OK, both)
					seen.when("touch", both)
					seen.when("do not touch", !both)
				}
			}
		}
		if !touch(descartes.Touch(images[:4]...)) {
			t.Fatal("the images of four do not touch each other")
		}
	}
	seen.least(t, 100, "touch", "do not touch")
}

func TestWholeStaysWhole(t *testing.T) { // P20.9
	swap := ok[[4]api.Disk](t)
	for _, f := range []quad{knot(), strip(), ford(3), knot().row(7)} {
		r := rand.New(rand.NewSource(2083))
		g := f.disks()
		for range 400 {
			g = swap(descartes.Swap(g, r.Intn(4)))
			for _, d := range g {
				if d.Bend.Den != small(1) || d.Mid.Re.Den != small(1) || d.Mid.Im.Den != small(1) || d.Co.Den != small(1) {
					t.Fatal("a whole number has become none")
				}
			}
		}
	}
}

func TestRootAndBack(t *testing.T) { // P20.9
	seen := tally{}
	quads(2084, 150, func(q quad) {
		f := q.disks()
		root, places, e := descartes.Root(f)
		if e != api.OK {
			return
		}
		seen.when("moved", len(places) > 0)
		slices.Reverse(places)
		g, e := descartes.Swaps(root, places...)
		want(t, "Swaps back from the root", g, e, f)
		again, none, e := descartes.Root(root)
		want(t, "Root of Root", again, e, root)
		if len(none) != 0 {
			t.Fatalf("Root of Root goes by %v", none)
		}
	})
	seen.least(t, 30, "moved")
}

// Four in all orders come to the same disks.
func TestOrderSaysNothing(t *testing.T) { // P20.9
	f := knot().changed(0, 1, 3).disks()
	for _, p := range [][4]int{{0, 1, 2, 3}, {3, 2, 1, 0}, {1, 0, 3, 2}, {2, 3, 0, 1}, {1, 2, 3, 0}} {
		g := [4]api.Disk{f[p[0]], f[p[1]], f[p[2]], f[p[3]]}
		root, places, e := descartes.Root(g)
		back, _, _ := descartes.Root(f)
		want(t, "Root", root, e, [4]api.Disk{back[p[0]], back[p[1]], back[p[2]], back[p[3]]})
		if len(places) != 3 {
			t.Errorf("Root goes by %v", places)
		}
	}
}
