package packing_test

import (
	"math/rand"
	"slices"
	"testing"

	"tracery/api"
	"tracery/packing"
)

func disksOf(l ...ball) []api.Disk {
	var out []api.Disk
	for _, x := range l {
		out = append(out, x.disk())
	}
	return out
}

func wantApart(t *testing.T, what string, i, j int, is bool, l ...api.Disk) {
	t.Helper()
	first, second, ok := packing.Apart(l...)
	if first != i || second != j || ok != is {
		t.Fatalf("%s: %d, %d, %v, want %d, %d, %v", what, first, second, ok, i, j, is)
	}
}

// overlap is P21.5's.
func overlap(l []ball) (int, int, bool) {
	for j := range l {
		for i := range j {
			if l[i].overlaps(l[j]) {
				return i, j, true
			}
		}
	}
	return 0, 0, false
}

func wantFirst(t *testing.T, l []ball) bool {
	t.Helper()
	i, j, is := overlap(l)
	wantApart(t, "Apart", i, j, is, disksOf(l...)...)
	return is
}

func TestApartOfTwo(t *testing.T) { // P21.5
	seen := tally{}
	see := func(x, y ball) {
		t.Helper()
		is, product := wantFirst(t, []ball{x, y}), x.lying(y)
		seen.when("overlap", is)
		seen.when("the same", x.same(y))
		seen.when("inside out", x.same(y.out()))
		seen.when("touch", product.Cmp(rat(1, 1)) == 0 && !x.same(y.out()))
		seen.when("within", product.Cmp(rat(-1, 1)) < 0)
		seen.when("apart", product.Cmp(rat(1, 1)) > 0)
		seen.when("the product is too big", !upTo(product) && is)
		seen.when("the product is too big, apart", !upTo(product) && !is)
	}
	for n, x := range grains() {
		for m, y := range grains() {
			if n == m || (n+m)%3 == 0 {
				see(x, y)
			}
		}
		see(x, x.out())
	}
	for n, x := range longs() {
		for _, y := range longs()[n:] {
			see(x, y)
		}
		see(x, x.out())
	}
	seen.least(t, 10, "overlap", "the same", "touch", "inside out", "within", "apart", "the product is too big", "the product is too big, apart")
}

func TestApartOfMany(t *testing.T) { // P21.5
	r := rand.New(rand.NewSource(2140))
	seen := tally{}
	for n := range 400 {
		var l []ball
		f := oddQuad(r, 2)
		all := f.all(2)
		for range 1 + r.Intn(12) {
			switch r.Intn(12) {
			case 0:
				l = append(l, oddBall(r, 3))
			case 1:
				l = append(l, f[r.Intn(4)].out())
			default:
				l = append(l, all[r.Intn(len(all))].ball)
			}
		}
		seen.when("overlap", wantFirst(t, l))
		if i, j, is := overlap(l); is {
			seen.when("not the first", i > 0)
			seen.when("not neighbours", j > i+1)
		} else {
			seen.when("none", n > 0)
		}
	}
	seen.least(t, 10, "overlap", "none", "not the first", "not neighbours")
}

func TestApartExamples(t *testing.T) { // P21.5
	f := knot().disks()
	unit := balled(1, 0, 0, -1).disk()
	wantApart(t, "none", 0, 0, false)
	wantApart(t, "an empty list", 0, 0, false, []api.Disk{}...)
	wantApart(t, "one", 0, 0, false, f[1])
	wantApart(t, "one that may not be", 0, 0, false, api.Disk{})
	wantApart(t, "the four, and the first once more", 0, 0, false, append(f[:], f[0])...)
	wantApart(t, "the same twice", 0, 0, false, f[2], f[2])
	wantApart(t, "one and itself inside out", 0, 0, false, f[0], unit)
	wantApart(t, "the four and one about them", 1, 4, true, append(f[:], unit)...)
	wantApart(t, "by the second place first", 1, 2, true, f[0], f[1], unit, f[2], f[3])
	wantApart(t, "of two first places the lesser", 0, 2, true, f[1], f[2], unit)
	wantApart(t, "of pairs far apart", 2, 3, true, f[1], f[2], about(in(9, 0), rat(3, 1)).disk(), about(in(9, 0), rat(4, 1)).disk(), unit)
	wantApart(t, "two holes side by side", 0, 0, false, about(in(0, 0), rat(-1, 1)).disk(), about(in(9, 0), rat(-1, 1)).disk())
	wantApart(t, "two half planes along", 0, 1, true, balled(0, 1, 0, 0).disk(), balled(0, 1, 0, 2).disk())
	wantApart(t, "two half planes across", 0, 1, true, balled(0, 1, 0, 0).disk(), balled(0, 0, 1, 0).disk())
	wantApart(t, "two half planes face to face", 0, 0, false, balled(0, 1, 0, 0).disk(), balled(0, -1, 0, 2).disk())
}

func TestApartOfWrongOnes(t *testing.T) { // P21.5
	f := knot().disks()
	wrong := wrongDisks()
	wantApart(t, "wrong ones alone", 0, 0, false, wrong...)
	for _, d := range wrong {
		wantApart(t, "a wrong one among others", 0, 0, false, f[0], d, f[1], d, d, f[2], f[3])
		wantApart(t, "a wrong one ahead of two", 1, 2, true, d, f[1], about(in(0, 0), rat(1, 1)).disk())
		wantApart(t, "a wrong one between two", 0, 2, true, f[1], d, about(in(0, 0), rat(1, 1)).disk())
	}
}

// MaxTouch and MaxList say nothing of Apart.
func TestApartOfLongLists(t *testing.T) { // P21.5
	two := disksOf(a(), about(in(0, 0), rat(1, 1)))
	for _, n := range []int{62, 63, 64, 65, 4094, 4095, 4096, 9999} {
		wantApart(t, "two behind many wrong ones", n, n+1, true, append(make([]api.Disk, n), two...)...)
	}
	many := slices.Repeat(two[:1], 500)
	wantApart(t, "one many times", 0, 0, false, many...)
	wantApart(t, "one many times, and one about it", 0, 500, true, append(many, two[1])...)
	var line []api.Disk
	for k := range int64(300) {
		line = append(line, balled(1, 2*k, 0, 4*k*k-1).disk())
	}
	wantApart(t, "a line", 0, 0, false, line...)
	wantApart(t, "a line, and one in two of it", 120, 300, true, append(line, balled(1, 241, 0, 241*241-1).disk())...)
	wantApart(t, "a line, and one touching two of it", 0, 0, false, append(line, balled(0, 0, 1, 2).disk())...)
}

// Two that all but touch, on both sides.
func TestApartByAHair(t *testing.T) { // P21.5
	tiny := under(twos(4000))
	left := about(in(0, 0), rat(1, 1))
	for k, is := range map[int64]bool{-2: true, -1: true, 0: false, 1: false, 2: false} {
		d := about(flat(plus(rat(2, 1), times(rat(k, 1), tiny))), rat(1, 1))
		if !d.fits() {
			t.Fatal("the disk is too long")
		}
		wantFirst(t, []ball{left, d})
		wantApart(t, "by a hair", 0, place(is), is, left.disk(), d.disk())
		hole, within := left.out(), about(flat(plus(rat(1, 2), times(rat(k, 1), tiny))), rat(1, 2))
		wantFirst(t, []ball{hole, within})
		wantApart(t, "within, by a hair", 0, place(k > 0), k > 0, hole.disk(), within.disk())
	}
}

// place is the second one of two, if they overlap.
func place(is bool) int {
	if is {
		return 1
	}
	return 0
}
