package chains_test

import (
	"math/rand"
	"testing"

	"tracery/api"
	"tracery/chains"
)

func wantPlace(t *testing.T, f quad, x ball, n int) {
	t.Helper()
	k, e := chains.Place(f.disks(), x.disk())
	want(t, "Place", k, e, n)
}

func wantNoPlace(t *testing.T, what string, f quad, x ball) {
	t.Helper()
	k, e := chains.Place(f.disks(), x.disk())
	wantNone(t, "Place of "+what, k, e, api.ErrNone)
}

func TestPlace(t *testing.T) { // P22.4
	for _, f := range rows(70) {
		for _, n := range numbers() {
			x := f.at(n)
			if !x.fits() {
				continue
			}
			wantPlace(t, f, x, n)
			if n < 5 {
				wantNoPlace(t, "a disk inside out", f, x.out())
				wantNoPlace(t, "a disk of the row inside out", f.out(), x)
			}
		}
		wantNoPlace(t, "a rail", f, f[0])
		wantNoPlace(t, "a rail", f, f[1])
		for _, n := range []int{api.MaxChain + 1, -api.MaxChain - 1, api.MaxChain + 2, 1 << 22, -1 << 25} {
			if x := f.at(n); x.fits() {
				wantNoPlace(t, "one past the bound", f, x)
			}
		}
	}
}

func TestPlaceExamples(t *testing.T) { // P22.4
	s := strip()
	wantPlace(t, s, balled(1, 14, 1, 196), 7)
	wantPlace(t, s, s[2], 0)
	wantPlace(t, s, s[3], 1)
	wantPlace(t, s, about(in(-2, 1), rat(1, 1)), -1)
	for _, z := range []num{in(1, 1), in(-1, 1), parts(1, 2, 1, 1), in(2, 2), in(2, 0), in(0, -1), in(4, 5), in(3, 1), in(0, 1<<21), parts(4, 1, 1, 2)} {
		wantNoPlace(t, "what has the Bend of a disk", s, about(z, rat(1, 1)))
	}
	for _, x := range []ball{about(in(4, 1), rat(1, 2)), about(in(4, 1), rat(3, 1)), about(in(4, 1), rat(-1, 1)), beyond(in(4, 1), in(1, 0)), balled(0, 0, -1, 4), o(), a(), b(), c()} {
		wantNoPlace(t, "another disk", s, x)
	}
	// The rows that the same four make in other orders.
	for i := range 4 {
		f := knot().swapped(1, i)
		wantPlace(t, f, f[2], 0)
		wantPlace(t, f, f[3], 1)
		wantNoPlace(t, "a rail", f, f[0])
		wantNoPlace(t, "a rail", f, f[1])
	}
}

// In the knife the disks n and -n have one Bend.
func TestPlaceOfBendsThatComeTwice(t *testing.T) { // P22.4
	f := knife(rat(1, 2))
	for n := range 50 {
		x, y := f.at(n), f.at(-n)
		if x.bend.Cmp(y.bend) != 0 {
			t.Fatal("they are to have one Bend")
		}
		wantPlace(t, f, x, n)
		wantPlace(t, f, y, -n)
		z := about(x.centre().plus(in(1, 0)), x.radius())
		wantNoPlace(t, "what has the Bend of two", f, z)
	}
}

// What has the same products with the disks 0 and 1 as a disk of the row has is
// none yet.
func TestPlaceOfWhatLiesAlike(t *testing.T) { // P22.4
	for _, m := range []chart{still(), flip(), round(in(1, 2), in(3, -1), in(0, 2)), stretch(in(3, 4)).turned()} {
		f := m.images(strip())
		for n := -5; n <= 5; n++ {
			for _, y := range []int64{-7, -1, 0, 2, 3, 9} {
				x := m.image(about(in(2*int64(n), y), rat(1, 1)))
				wantNoPlace(t, "what lies alike", f, x)
			}
			wantPlace(t, f, m.image(about(in(2*int64(n), 1), rat(1, 1))), n)
		}
	}
}

func TestPlaceOfOthers(t *testing.T) { // P22.4
	r := rand.New(rand.NewSource(2240))
	for _, f := range rows(60) {
		for n := range 6 {
			wantNoPlace(t, "any disk", f, oddBall(r, 1+n))
		}
		for _, g := range []quad{strip().slid(in(1, 0)), strip().stretched(in(3, 0)), knife(rat(3, 7)), knot().stretched(in(0, 7))} {
			wantNoPlace(t, "a disk of another row", f, g.at(17))
		}
	}
}

func TestPlaceLong(t *testing.T) { // P22.4
	for _, f := range append(gaps(), strip(), knot()) {
		for _, x := range longs() {
			wantNoPlace(t, "a long one", f, x)
		}
	}
	seen := tally{}
	for _, f := range gaps() {
		for n := -20; n <= 20; n++ {
			x := f.at(n)
			seen.fit(x.fits())
			if x.fits() {
				wantPlace(t, f, x, n)
				wantNoPlace(t, "a long one inside out", f, x.out())
			}
		}
	}
	seen.least(t, 20, "fits", "too big")
	// This one has the same products with the disks 0 and 1 as the disk 2, which
	// is too big.
	a := shared(top(), 3)
	f := holed(a)
	like := about(in(4, 3), rat(1, 1)).stretched(flat(quo(ofInt(a), rat(36, 1))))
	if f.at(2).fits() || !like.fits() {
		t.Fatal("the disk 2 alone is to be too big")
	}
	wantNoPlace(t, "what lies like one that is too big", f, like)
}

func TestPlaceRefuses(t *testing.T) { // P22.4
	for _, row := range wrongRows() {
		for _, d := range []api.Disk{a().disk(), {}, strip()[2].disk()} {
			n, e := chains.Place(row, d)
			wantNone(t, "Place in a row with a wrong disk", n, e, api.ErrArg)
		}
	}
	apart := loose()
	for _, d := range wrongDisks() {
		for _, f := range append(apart[:12:12], strip(), knot()) {
			n, e := chains.Place(f.disks(), d)
			wantNone(t, "Place of a wrong disk", n, e, api.ErrArg)
		}
	}
	for _, f := range apart {
		for _, x := range append(longs(), f[0], f[2], f[3], a()) {
			n, e := chains.Place(f.disks(), x.disk())
			wantNone(t, "Place in four that do not touch", n, e, api.ErrTouch)
		}
	}
}
