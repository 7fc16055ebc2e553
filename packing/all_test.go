package packing_test

import (
	"math/big"
	"math/rand"
	"slices"
	"testing"

	"tracery/api"
	"tracery/packing"
)

// gap answers four that touch each other: the lower half plane, the disk over
// 0, and two neighbours of a row of which the disk 2 is too big, while the disks
// 0, 1, 3 and 4 are not, since what stretches them is divided out of these.
func gap(t *testing.T, first int64) quad {
	t.Helper()
	factors := map[int64]*big.Int{0: more(twos(89), -1), 1: more(twos(107), -1), 3: more(twos(127), -1), 4: more(twos(61), -1)}
	all, n := big.NewInt(1), new(big.Int)
	for _, p := range factors {
		all.Mul(all, p)
	}
	for k, p := range factors { // n + k is p times a number
		rest := new(big.Int).Quo(all, p)
		part := new(big.Int).ModInverse(rest, p)
		n.Add(n, part.Mul(part.Mul(part, rest), big.NewInt(-k)))
	}
	n.Mod(n, all)
	from := new(big.Int).Quo(new(big.Int).Lsh(root(), 20), all)
	n.Add(n, from.Mul(from, all))
	by := flat(ofInt(new(big.Int).Mul(all, all)))
	row := func(k int64) quad { return ford(more(n, k)).stretched(by) }
	for k, fits := range []bool{true, true, false, true, true} {
		if row(int64(k))[2].fits() != fits {
			t.Fatal("the row is another one")
		}
	}
	f := row(first)
	if !f.fits() || !f.touch() {
		t.Fatal("the four are to be such as may be")
	}
	return f
}

// crowded answers four that touch each other: the lower half plane, and disks
// over three neighbours, slid by what goes well together with the denominators
// of these alone, so that any other one has too long a number under its Co.
func crowded() quad {
	r := rand.New(rand.NewSource(2102))
	for {
		q, n := full(r, 250), full(r, 250)
		p, m := new(big.Int), new(big.Int)
		if new(big.Int).GCD(p, m, n, q).Cmp(big.NewInt(1)) != 0 { // p n - (-m) q is 1
			continue
		}
		m.Neg(m)
		between := new(big.Int).Add(q, n)
		rest := new(big.Int).Mul(n, between)
		by := new(big.Rat).SetFrac(more(new(big.Int).Mul(new(big.Int).Neg(p), rest), 1), new(big.Int).Mul(q, rest))
		return quad{balled(0, 0, -1, 0), overFraction(p, q), overFraction(m, n), overFraction(new(big.Int).Add(p, m), between)}.slid(flat(by))
	}
}

// overFraction is chapter 23's disk over p / q.
func overFraction(p, q *big.Int) ball {
	x, y := ofInt(p), ofInt(q)
	return ball{double(square(y)), num{double(times(x, y)), rat(1, 1)}, double(square(x))}
}

// growing are four that touch each other and that get too big by few swaps: by
// which of their numbers, and by which swap, is all that differs.
func growing(t *testing.T) []quad {
	t.Helper()
	l := []quad{crowded(), gap(t, 0), gap(t, 3), quad{gap(t, 0)[2], gap(t, 0)[0], gap(t, 0)[3], gap(t, 0)[1]}}
	for _, by := range []int64{3, 6, 14, 15, 37, 38, 80, 110, 200, 1000, 5000} {
		l = append(l, knot().scaled(shared(top(), by)), quad{b(), c(), a(), o()}.scaled(shared(top(), by)), knot().out().scaled(shared(top(), by)))
		l = append(l, quad{a(), o(), b(), c()}.scaled(shared(top(), by)), strip().stretched(flat(ofInt(shared(top(), 4*by)))))
		l = append(l, strip().slid(flat(ofInt(shared(root(), by)))), knot().slid(num{none(), ofInt(shared(root(), by))}))
		half := new(big.Int).Sqrt(shared(top(), by))
		for _, unit := range []num{{ofInt(half), rat(1, 1)}, {ofInt(more(shared(half, 2), -1)), ofInt(shared(half, 2))}, {ofInt(shared(half, 3)), ofInt(shared(half, 2))}} {
			l = append(l, strip().slid(in(-1, 0)).stretched(unit.pointing()), knot().stretched(unit.pointing()))
		}
	}
	l = slices.DeleteFunc(l, func(f quad) bool { return !f.fits() })
	for _, f := range l {
		if !f.touch() {
			t.Fatal("the four do not touch each other")
		}
	}
	return l
}

func TestCount(t *testing.T) { // P21.1
	power := 1
	for n := range 7 {
		count, e := packing.Count(n)
		want(t, "Count", count, e, 4+2*(power-1))
		power *= 3
		count, e = packing.Count(n)
		want(t, "Count", count, e, len(knot().all(n)))
	}
	for n, wanted := range []int{4, 8, 20, 56, 164, 488, 1460} {
		count, e := packing.Count(n)
		want(t, "Count", count, e, wanted)
	}
	for _, n := range greatCounts() {
		count, e := packing.Count(n)
		wantNone(t, "Count of many", count, e, api.ErrPacked)
	}
	for _, n := range wrongCounts() {
		count, e := packing.Count(n)
		wantNone(t, "Count below 0", count, e, api.ErrArg)
	}
}

func TestAll(t *testing.T) { // P21.1
	quads(t, 2110, 60, func(f quad) {
		for n := range 4 {
			l, e := packing.All(f.disks(), n)
			wantList(t, "All", l, e, f.all(n))
		}
	})
	for _, f := range longQuads() {
		l, e := packing.All(f.disks(), 3)
		wantList(t, "All of long ones", l, e, f.all(3))
	}
	for _, f := range []quad{knot(), strip(), knot().out(), longQuads()[2]} {
		l, e := packing.All(f.disks(), 6)
		wantList(t, "All by six swaps", l, e, f.all(6))
	}
}

func bendsOf(l []api.Packed) []api.Frac {
	var bends []api.Frac
	for _, p := range l {
		bends = append(bends, p.Disk.Bend)
	}
	return bends
}

func wantBends(t *testing.T, what string, l []api.Packed, e api.Errno, wanted ...int64) {
	t.Helper()
	var bends []api.Frac
	for _, n := range wanted {
		bends = append(bends, over(n, 1))
	}
	if e != api.OK || !slices.Equal(bendsOf(l), bends) {
		t.Fatalf("%s has other bends, %v", what, e)
	}
}

func TestAllExamples(t *testing.T) { // P21.1
	f := knot().disks()
	l, e := packing.All(f, 0)
	wantBends(t, "All by no swaps", l, e, -1, 2, 2, 3)
	for i, p := range l {
		if p.Disk != f[i] || len(p.Swaps) != 0 {
			t.Error("the four do not come first")
		}
	}
	l, e = packing.All(f, 1)
	wantBends(t, "All by one swap", l, e, -1, 2, 2, 3, 15, 6, 6, 3)
	l, e = packing.All(f, 2)
	wantBends(t, "All by two swaps", l, e, -1, 2, 2, 3, 15, 6, 6, 3, 38, 38, 35, 23, 14, 11, 23, 14, 11, 15, 6, 6)
	var rows [][]int
	for _, p := range l[4:] {
		rows = append(rows, p.Swaps)
	}
	wanted := [][]int{{0}, {1}, {2}, {3}, {0, 1}, {0, 2}, {0, 3}, {1, 0}, {1, 2}, {1, 3}, {2, 0}, {2, 1}, {2, 3}, {3, 0}, {3, 1}, {3, 2}}
	if !slices.EqualFunc(rows, wanted, slices.Equal) {
		t.Errorf("the rows are %v", rows)
	}
	l, e = packing.All(strip().disks(), 1)
	wantBends(t, "All of the strip", l, e, 0, 0, 1, 1, 4, 4, 1, 1)
	l, e = packing.All(knot().out().disks(), 1)
	wantBends(t, "All, inside out", l, e, 1, -2, -2, -3, -15, -6, -6, -3)
}

func TestAllTooBig(t *testing.T) { // P21.1
	seen := tally{}
	for _, f := range growing(t) {
		all := f.all(3)
		fit := fitting(all)
		for n := range 4 {
			count, _ := packing.Count(n)
			l, e := packing.All(f.disks(), n)
			switch {
			case len(fit) < count:
				wantNoList(t, "All of what gets too big", l, e, api.ErrBig)
				seen.when("the last one alone is too big", len(fit) == count-1)
			default:
				wantList(t, "All of what does not get too big yet", l, e, all[:count])
				seen.when("the next one is too big", len(fit) == count && len(fit) < len(all))
			}
		}
		if len(fit) < len(all) {
			x := all[len(fit)]
			bend, mid, co := !upTo(x.bend), !x.mid.fits(), !upTo(x.co)
			seen.when("Bend alone", bend && !mid && !co)
			seen.when("Re alone", !upTo(x.mid.re) && upTo(x.mid.im) && !bend && !co)
			seen.when("Im alone", !upTo(x.mid.im) && upTo(x.mid.re) && !bend && !co)
			seen.when("Co alone", co && !bend && !mid)
			seen.when("a denominator alone", co && !bend && !mid && len(x.co.Num().Bytes()) <= api.MaxWhole)
			seen.when("later ones fit", slices.ContainsFunc(all[len(fit):], brought.fits))
		}
	}
	seen.least(t, 1, "the last one alone is too big", "Re alone", "Im alone", "a denominator alone")
	seen.least(t, 5, "the next one is too big", "Bend alone", "Co alone", "later ones fit")
}

// Just at the bound: a Bend that is as great as may be, and one more.
func TestAllAtTheBound(t *testing.T) { // P21.1
	by := new(big.Int).Quo(top(), big.NewInt(15))
	if new(big.Int).Mul(by, big.NewInt(15)).Cmp(top()) != 0 {
		t.Fatal("15 is to divide the greatest number")
	}
	f := knot().scaled(by)
	l, e := packing.All(f.disks(), 1)
	wantList(t, "All up to the bound", l, e, f.all(1))
	want(t, "the greatest bend", l[4].Disk.Bend, e, fraction(ofInt(top())))
	f = knot().scaled(more(by, 1))
	l, e = packing.All(f.disks(), 1)
	wantNoList(t, "All past the bound", l, e, api.ErrBig)
	l, e = packing.All(f.disks(), 0)
	wantList(t, "All of the four alone", l, e, f.all(0))
}

func TestAllRefuses(t *testing.T) { // P21.1
	refused := func(what string, f [4]api.Disk, n int, wanted api.Errno) {
		t.Helper()
		l, e := packing.All(f, n)
		wantNoList(t, what, l, e, wanted)
	}
	big := growing(t)[0].disks()
	for _, f := range wrongFours() {
		for _, n := range []int{0, 1, 6, 7, -1, greatCounts()[10]} {
			refused("All of wrong ones", f, n, api.ErrArg)
		}
	}
	for _, n := range wrongCounts() {
		refused("All below 0", knot().disks(), n, api.ErrArg)
		refused("All below 0 of what gets too big", big, n, api.ErrArg)
	}
	for _, n := range greatCounts() {
		refused("All of many", knot().disks(), n, api.ErrPacked)
		refused("All of many that get too big", big, n, api.ErrPacked)
	}
	refused("All of what gets too big", big, 6, api.ErrBig)
}

func TestUpto(t *testing.T) { // P21.3
	seen := tally{}
	quads(t, 2111, 40, func(f quad) {
		for n := range 3 {
			all := f.all(n)
			bends := []*big.Rat{none(), rat(6, 1), rat(-1, 1), rat(-100, 7)}
			for k := 0; k < len(all); k += 3 {
				x, tiny := all[k].bend, under(twos(900))
				bends = append(bends, x, plus(x, tiny), minus(x, tiny))
			}
			for _, bend := range bends {
				var wanted []brought
				for _, x := range all {
					if x.bend.Cmp(bend) <= 0 {
						wanted = append(wanted, x)
					}
				}
				l, e := packing.Upto(f.disks(), n, fraction(bend))
				wantList(t, "Upto", l, e, wanted)
				seen.when("none", len(l) == 0)
				seen.when("all", len(l) == len(all))
				seen.when("some", len(l) > 0 && len(l) < len(all))
			}
		}
	})
	seen.least(t, 50, "none", "all", "some")
}

func TestUptoExamples(t *testing.T) { // P21.3
	f := knot().disks()
	l, e := packing.Upto(f, 1, over(6, 1))
	wantBends(t, "Upto 6", l, e, -1, 2, 2, 3, 6, 6, 3)
	l, e = packing.Upto(f, 1, over(-1, 1))
	wantBends(t, "Upto -1", l, e, -1)
	l, e = packing.Upto(f, 6, fraction(opposite(ofInt(top()))))
	wantBends(t, "Upto what is below all", l, e)
	l, e = packing.Upto(f, 6, fraction(ofInt(top())))
	wantList(t, "Upto what is above all", l, e, knot().all(6))
	l, e = packing.Upto(f, 1, over(44, 3))
	wantBends(t, "Upto 44/3", l, e, -1, 2, 2, 3, 6, 6, 3)
	l, e = packing.Upto(f, 0, over(2, 1))
	wantBends(t, "Upto 2 by no swap", l, e, -1, 2, 2)
}

func TestUptoRefuses(t *testing.T) { // P21.3
	refused := func(what string, f [4]api.Disk, n int, bend api.Frac, wanted api.Errno) {
		t.Helper()
		l, e := packing.Upto(f, n, bend)
		wantNoList(t, what, l, e, wanted)
	}
	f, big := knot().disks(), knot().scaled(shared(top(), 14)).disks()
	for _, x := range wrongFracs() {
		for _, n := range []int{0, 6, 7, -1} {
			refused("Upto a wrong bend", f, n, x, api.ErrArg)
			refused("Upto a wrong bend of what gets too big", big, n, x, api.ErrArg)
		}
	}
	for _, g := range wrongFours() {
		for _, n := range []int{0, 7, -1} {
			refused("Upto of wrong ones", g, n, over(6, 1), api.ErrArg)
		}
	}
	for _, n := range wrongCounts() {
		refused("Upto below 0", f, n, over(6, 1), api.ErrArg)
		refused("Upto below 0 of what gets too big", big, n, over(6, 1), api.ErrArg)
	}
	for _, n := range greatCounts() { // however few are up to the bend
		refused("Upto of many", f, n, over(-9, 1), api.ErrPacked)
		refused("Upto of many that get too big", big, n, over(6, 1), api.ErrPacked)
	}
	for _, n := range []int{1, 2, 6} { // what is too big is above the bend, and All is refused nevertheless
		refused("Upto of what gets too big", big, n, over(6, 1), api.ErrBig)
		refused("Upto of what gets too big", big, n, fraction(ofInt(top())), api.ErrBig)
	}
	l, e := packing.Upto(big, 0, over(0, 1))
	wantList(t, "Upto of what gets too big behind it", l, e, knot().scaled(shared(top(), 14)).all(0)[:1])
}

func wantHas(t *testing.T, f quad, n int, d api.Disk, swaps []int, is bool) {
	t.Helper()
	got, ok, e := packing.Has(f.disks(), n, d)
	if !slices.Equal(got, swaps) || ok != is || e != api.OK {
		t.Fatalf("Has %s by %d swaps: %v, %v, %v, want %v, %v", brief(d), n, got, ok, e, swaps, is)
	}
}

func TestHas(t *testing.T) { // P21.3
	quads(t, 2112, 12, func(f quad) {
		all := f.all(3)
		for _, x := range all {
			for n := range 4 {
				if len(x.swaps) <= n {
					wantHas(t, f, n, x.disk(), x.swaps, true)
				} else {
					wantHas(t, f, n, x.disk(), nil, false)
				}
			}
		}
		for _, x := range []ball{all[0].out(), all[20].out(), about(in(77, 5), rat(1, 3)), balled(0, 1, 0, 99)} {
			wantHas(t, f, 3, x.disk(), nil, false)
		}
	})
	last := knot().all(6)[1459]
	wantHas(t, knot(), 6, last.disk(), []int{3, 2, 3, 2, 3, 2}, true)
	wantHas(t, knot(), 5, last.disk(), nil, false)
	for _, f := range longQuads() {
		all := f.all(2)
		wantHas(t, f, 2, all[19].disk(), []int{3, 2}, true)
		wantHas(t, f, 1, all[19].disk(), nil, false)
		wantHas(t, f, 2, f[2].disk(), nil, true)
	}
}

func TestHasRefuses(t *testing.T) { // P21.3
	refused := func(what string, f [4]api.Disk, n int, d api.Disk, wanted api.Errno) {
		t.Helper()
		swaps, is, e := packing.Has(f, n, d)
		if len(swaps) != 0 || is || e != wanted {
			t.Fatalf("%s: %v, %v, %v, want %v", what, swaps, is, e, wanted)
		}
	}
	f, big := knot().disks(), knot().scaled(shared(top(), 14)).disks()
	for _, d := range wrongDisks() {
		for _, n := range []int{0, 2, 7, -1} {
			refused("Has a wrong disk", f, n, d, api.ErrArg)
			refused("Has a wrong disk, of what gets too big", big, n, d, api.ErrArg)
		}
	}
	for _, g := range wrongFours() {
		for _, n := range []int{0, 1, 7, -1} {
			refused("Has of wrong ones", g, n, a().disk(), api.ErrArg)
		}
	}
	for _, n := range wrongCounts() {
		refused("Has below 0", f, n, f[0], api.ErrArg)
	}
	for _, n := range greatCounts() {
		refused("Has of many", f, n, f[0], api.ErrPacked)
		refused("Has of many that get too big", big, n, big[0], api.ErrPacked)
	}
	for _, n := range []int{1, 2, 6} { // though it comes ahead of what is too big
		refused("Has of what gets too big", big, n, big[0], api.ErrBig)
		refused("Has of what gets too big", big, n, f[0], api.ErrBig)
	}
	wantHas(t, knot().scaled(shared(top(), 14)), 0, big[3], nil, true)
}
