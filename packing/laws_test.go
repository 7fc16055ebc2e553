package packing_test

import (
	"math/big"
	"math/rand"
	"slices"
	"testing"

	"tracery/api"
	"tracery/descartes"
	"tracery/packing"
)

func diskList(l []api.Packed) []api.Disk {
	var disks []api.Disk
	for _, p := range l {
		disks = append(disks, p.Disk)
	}
	return disks
}

// ratOf is for fractions that may be.
func ratOf(x api.Frac) *big.Rat {
	r := new(big.Rat).SetFrac(new(big.Int).SetBytes([]byte(x.Num.Mag)), new(big.Int).SetBytes([]byte(x.Den.Mag)))
	if x.Num.Neg {
		r.Neg(r)
	}
	return r
}

func sumOf(f [4]api.Disk) *big.Rat {
	sum := new(big.Rat)
	for _, d := range f {
		sum.Add(sum, ratOf(d.Bend))
	}
	return sum
}

func TestNoneOverlap(t *testing.T) { // P21.6, P0.8
	seen := tally{}
	quads(t, 2150, 60, func(f quad) {
		seen.when("below 0", f.bends().Sign() < 0)
		if f.bends().Sign() <= 0 {
			return
		}
		seen.when("above 0", true)
		seen.when("half planes", f[0].straight() || f[1].straight() || f[2].straight() || f[3].straight())
		l, e := packing.All(f.disks(), 3)
		if e != api.OK {
			t.Fatal(e)
		}
		wantApart(t, "All", 0, 0, false, diskList(l)...)
		wantOnce(t, l)
		balls := []ball{}
		for _, x := range f.all(2) {
			balls = append(balls, x.ball)
		}
		if _, _, is := overlap(balls); is {
			t.Fatal("they overlap")
		}
	})
	seen.least(t, 5, "above 0", "below 0", "half planes")
	for _, f := range []quad{knot(), strip()} {
		l, _ := packing.All(f.disks(), 6)
		wantApart(t, "All by six swaps", 0, 0, false, diskList(l)...)
		wantOnce(t, l)
	}
}

func wantOnce(t *testing.T, l []api.Packed) {
	t.Helper()
	at := map[api.Disk]int{}
	for k, p := range l {
		if first, ok := at[p.Disk]; ok {
			t.Fatalf("%d and %d are the same disk", first, k)
		}
		at[p.Disk] = k
	}
}

func TestWholeStaysWhole(t *testing.T) { // P21.6, P0.8
	one := small(1)
	for _, f := range []quad{knot(), strip(), knot().row(7), knot().out(), strip().slid(in(3, -5))} {
		for _, shift := range []num{in(0, 0), parts(1, 7, 0, 1), parts(2, 3, -3, 11)} {
			g := f.slid(shift)
			l, e := packing.All(g.disks(), 5)
			if e != api.OK || len(l) != 488 {
				t.Fatal(e)
			}
			for _, p := range l {
				if p.Disk.Bend.Den != one {
					t.Fatal("a whole bend has become none")
				}
				if mid := p.Disk.Mid; shift.zero() && (mid.Re.Den != one || mid.Im.Den != one) {
					t.Fatal("a whole Mid has become none")
				}
			}
		}
	}
}

func TestAtKeepsTheRule(t *testing.T) { // P21.6, P0.8
	r := rand.New(rand.NewSource(2151))
	quads(t, 2152, 60, func(f quad) {
		for n := range 6 {
			swaps := someRow(r, 3*n)
			g, e := packing.At(f.disks(), swaps...)
			if e != api.OK {
				t.Fatal(e)
			}
			squares := new(big.Rat)
			for _, d := range g {
				squares.Add(squares, square(ratOf(d.Bend)))
			}
			if square(sumOf(g)).Cmp(double(squares)) != 0 {
				t.Fatal("the bends' sum squared is not twice the sum of their squares")
			}
			bends, mids, both, e := descartes.Rule(g)
			want(t, "Rule", [3]bool{bends, mids, both}, e, [3]bool{true, true, true})
			ok, e := descartes.Touch(g[:]...)
			want(t, "Touch", ok, e, true)
		}
	})
}

// The last swap's disk of At is that of All.
func TestAtAndAll(t *testing.T) { // P21.1, P21.4
	quads(t, 2153, 10, func(f quad) {
		l, _ := packing.All(f.disks(), 3)
		for _, p := range l[4:] {
			g, e := packing.At(f.disks(), p.Swaps...)
			want(t, "what At brings", g[p.Swaps[len(p.Swaps)-1]], e, p.Disk)
		}
	})
}

func TestRootKeeps(t *testing.T) { // P21.6, P0.8
	seen := tally{}
	quads(t, 2154, 120, func(f quad) {
		root, swaps, e := packing.Root(f.disks())
		if e != api.OK {
			return
		}
		if sumOf(root).Cmp(sumOf(f.disks())) > 0 {
			t.Fatal("the root's bends are more than the four's")
		}
		for i := range 4 {
			if g, e := packing.At(root, i); e != api.OK || sumOf(g).Cmp(sumOf(root)) < 0 {
				t.Fatal("a swap makes the root's bends less")
			}
		}
		again, none, e := packing.Root(root)
		want(t, "Root of Root", again, e, root)
		behind, e := packing.At(f.disks(), swaps...)
		want(t, "At of the swaps of Root", behind, e, root)
		if len(none) != 0 {
			t.Fatalf("Root of Root goes by %v", none)
		}
		for _, d := range root {
			if len(swaps) > 6 {
				break
			}
			way, is, e := packing.Has(f.disks(), len(swaps), d)
			if !is || e != api.OK || !slices.Equal(way, swaps[:len(way)]) {
				t.Fatalf("a disk of the root is none of the packing: %v, %v, %v", way, is, e)
			}
			seen.when("a disk that was brought", len(way) > 0)
		}
		seen.when("swaps", len(swaps) > 0)
	})
	seen.least(t, 20, "swaps", "a disk that was brought")
}

// Four of whole bends, above 0 in all, have a root.
func TestRootOfWholeBends(t *testing.T) { // P21.6
	r := rand.New(rand.NewSource(2155))
	for n := range 40 {
		f := []quad{knot(), strip(), knot().row(3).stretched(flat(rat(1, 7))), ford(big.NewInt(int64(n + 1)))}[n%4]
		g, e := packing.At(f.disks(), someRow(r, 5*n)...)
		if e != api.OK {
			t.Fatal(e)
		}
		root, _, e := packing.Root(g)
		if e != api.OK {
			t.Fatalf("there is no root: %v", e)
		}
		sum := sumOf(root)
		for _, d := range root {
			if d.Bend.Den != small(1) || double(ratOf(d.Bend)).Cmp(sum) > 0 {
				t.Fatal("that is no root")
			}
		}
	}
}
