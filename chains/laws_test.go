package chains_test

import (
	"math/rand"
	"testing"

	"tracery/api"
	"tracery/chains"
	"tracery/descartes"
	"tracery/frac"
	"tracery/mob"
)

// at answers disk n, which is not to be refused.
func at(t *testing.T, row [4]api.Disk, n int) api.Disk {
	t.Helper()
	d, e := chains.At(row, n)
	if e != api.OK {
		t.Fatalf("At is refused: %v", e)
	}
	return d
}

func TestEachTouches(t *testing.T) { // P22.8, P0.8
	for _, f := range rows(60) {
		row := f.disks()
		for _, n := range []int{0, 1, 2, 9, -1, -8, 1000, api.MaxChain - 1, -api.MaxChain} {
			d, next := at(t, row, n), at(t, row, n+1)
			ok, e := descartes.Touch(row[0], row[1], d, next)
			want(t, "Touch of the rails and two neighbours", ok, e, true)
			on, e := chains.On(row, n)
			want(t, "On", on, e, [4]api.Disk{row[0], row[1], d, next})
			bends, mids, both, e := descartes.Rule(on)
			want(t, "Rule", [3]bool{bends, mids, both}, e, [3]bool{true, true, true})
			if n == -api.MaxChain {
				continue
			}
			swapped, e := descartes.Swap([4]api.Disk{row[0], row[1], at(t, row, n-1), d}, 2)
			want(t, "what the disk ahead is changed for", swapped[2], e, next)
		}
	}
}

func TestProducts(t *testing.T) { // P22.8
	r := rand.New(rand.NewSource(2280))
	for _, f := range rows(50) {
		row := f.disks()
		for range 8 {
			n, k := r.Intn(2000)-1000, r.Intn(1000)
			if r.Intn(4) == 0 {
				k = r.Intn(3)
			}
			d, other := at(t, row, n), at(t, row, n+k)
			p, e := descartes.Product(d, other)
			want(t, "the product of two", p, e, over(2*int64(k)*int64(k)-1, 1))
			ok, e := descartes.Touch(d, other)
			want(t, "Touch of two", ok, e, k == 1)
			if k > 0 && d == other {
				t.Fatal("a disk stands at two numbers")
			}
		}
		p, e := descartes.Product(at(t, row, -api.MaxChain), at(t, row, api.MaxChain))
		want(t, "the product of the outermost two", p, e, over(8*api.MaxChain*api.MaxChain-1, 1))
	}
}

func TestAtOfOn(t *testing.T) { // P22.8
	r := rand.New(rand.NewSource(2281))
	for _, f := range rows(60) {
		row := f.disks()
		for range 6 {
			by, n := r.Intn(2000)-1000, r.Intn(2000)-1000
			on, e := chains.On(row, by)
			if e != api.OK {
				t.Fatal(e)
			}
			want(t, "At of On", at(t, on, n), api.OK, at(t, row, by+n))
			k, e := chains.Place(on, at(t, row, n))
			want(t, "Place in On", k, e, n-by)
			back, e := chains.On(on, -by)
			want(t, "On and back", back, e, row)
		}
	}
}

func TestCarryAt(t *testing.T) { // P22.8
	all := rows(30)
	for k, m := range charts() {
		for n, f := range all {
			if (k+n)%4 > 0 {
				continue
			}
			row, e := chains.Carry(m.mob(), f.disks())
			if e == api.ErrBig {
				continue
			}
			if e != api.OK {
				t.Fatal(e)
			}
			for _, n := range []int{0, 1, 2, -3, 77} {
				image, e := descartes.Image(m.mob(), at(t, f.disks(), n))
				if e != api.OK {
					t.Fatal(e)
				}
				want(t, "Carry's disk", at(t, row, n), api.OK, image)
				k, e := chains.Place(row, image)
				want(t, "Place of the image", k, e, n)
			}
		}
	}
}

func TestStraightAndCarry(t *testing.T) { // P22.7, P22.8
	seen := tally{}
	for _, f := range rows(120) {
		m, e := chains.Straight(f.disks())
		seen.when("none", e == api.ErrNone)
		if e != api.OK {
			continue
		}
		seen.when("one", true)
		row, e := chains.Carry(m, f.disks())
		want(t, "Carry by Straight", row, e, chains.Strip())
		back, e := mob.Inverse(m)
		if e != api.OK {
			continue
		}
		row, e = chains.Carry(back, chains.Strip())
		want(t, "Carry of the strip, back", row, e, f.disks())
	}
	seen.least(t, 20, "none", "one")
}

func TestPappus(t *testing.T) { // P22.9
	for _, x := range fractions() {
		row, e := chains.Knife(fraction(x))
		if e != api.OK {
			t.Fatal(e)
		}
		for _, n := range numbers() {
			height, radius, e := chains.Height(fraction(x), n)
			if e != api.OK {
				continue // TestHeight says where that may be
			}
			twice, e := frac.Mul(radius, frac.Int(2*int64(n)))
			want(t, "n times the diameter", twice, e, height)
			if n > 5 || n < -5 {
				continue
			}
			d := at(t, row, n)
			high, e := frac.Div(d.Mid.Im, d.Bend)
			want(t, "the height of the disk's centre", high, e, height)
			wide, e := frac.Div(frac.Int(1), d.Bend)
			want(t, "the disk's radius", wide, e, radius)
		}
	}
}
