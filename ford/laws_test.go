package ford_test

import (
	"math/rand"
	"slices"
	"testing"

	"tracery/api"
	"tracery/descartes"
	"tracery/ford"
	"tracery/frac"
	numbers "tracery/whole"
)

// some are fractions whose disks are not too big.
func some() []api.Frac {
	r := rand.New(rand.NewSource(2380))
	var l []api.Frac
	for _, x := range given() {
		if stood(x).fits() {
			l = append(l, fraction(x))
		}
	}
	for n := range 60 {
		l = append(l, fraction(odd(r, 1+n%30)))
	}
	return l
}

func over(t *testing.T, x api.Frac) api.Disk {
	t.Helper()
	d, e := ford.Over(x)
	if e != api.OK {
		t.Fatalf("Over is refused: %v", e)
	}
	return d
}

// wantDisks wants the disks over two unlike fractions to touch just if these are
// neighbours, and never to overlap.
func wantDisks(t *testing.T, x, y api.Frac) (near bool) {
	t.Helper()
	near, e := ford.Near(x, y)
	if e != api.OK {
		t.Fatal(e)
	}
	d, f := over(t, x), over(t, y)
	touch, e := descartes.Touch(d, f)
	want(t, "Touch", touch, e, near)
	apart, e := descartes.Apart(d, f)
	want(t, "Apart", apart, e, true)
	return near
}

func TestDisksTouch(t *testing.T) { // P23.7, P0.10
	seen := tally{}
	all := some()
	for k, x := range all {
		for n := 1; n < 9; n++ {
			if y := all[(k+n*n)%len(all)]; y != x {
				seen.when("near", wantDisks(t, x, y))
				seen.when("apart", true)
			}
		}
		for _, y := range twins(ratOf(x)) {
			if stood(y).fits() {
				seen.when("near", wantDisks(t, x, fraction(y)))
			}
		}
		ok, e := descartes.Apart(over(t, x), ford.Top())
		want(t, "Apart of Top", ok, e, true)
		ok, e = descartes.Touch(over(t, x), ford.Top())
		want(t, "Touch of Top", ok, e, x.Den == small(1))
	}
	row := slices.Collect(ford.Row(7))
	for _, x := range row {
		for _, y := range row {
			if x != y {
				seen.when("near", wantDisks(t, x, y))
			}
		}
	}
	seen.least(t, 100, "near", "apart")
}

func TestGapIsTheProduct(t *testing.T) { // P23.2, P23.7
	all := some()
	for k, x := range all {
		for n := range 6 {
			y := all[(k+7*n)%len(all)]
			got, e := ford.Gap(x, y)
			product, wrong := descartes.Product(over(t, x), over(t, y))
			if got != product || e != wrong {
				t.Fatalf("Gap is %s, %v, the product %s, %v", brief(got), e, brief(product), wrong)
			}
		}
	}
}

func TestBetweenNeighbours(t *testing.T) { // P23.7
	for _, x := range some() {
		for _, y := range twins(ratOf(x)) {
			other := fraction(y)
			mid, e := ford.Between(x, other)
			if e != api.OK || !stood(y).fits() {
				continue
			}
			for _, z := range []api.Frac{x, other} {
				ok, e := ford.Near(mid, z)
				want(t, "Near of what is between", ok, e, true)
				if d, e := ford.Over(mid); e == api.OK {
					ok, e = descartes.Touch(d, over(t, z))
					want(t, "Touch of what is between", ok, e, true)
				}
			}
		}
	}
}

func TestRowsNeighbours(t *testing.T) { // P23.7
	for _, n := range []int{1, 2, 3, 7, 30, 100} {
		row := slices.Collect(ford.Row(n))
		for k, x := range row {
			if k == 0 {
				continue
			}
			ok, e := ford.Near(row[k-1], x)
			want(t, "Near of two of a row", ok, e, true)
			next, e := ford.Next(row[k-1], n)
			want(t, "Next in a row", next, e, x)
			last, e := ford.Last(x, n)
			want(t, "Last in a row", last, e, row[k-1])
			simplest, e := frac.Simplest(mid(t, row[k-1], x, row[k-1]), mid(t, row[k-1], x, x))
			if e != api.OK || int64Of(simplest.Den) <= int64(n) {
				t.Fatalf("between two of the row of %d there is %s", n, brief(simplest))
			}
		}
	}
}

// mid is between two of a row, and nearer to the third.
func mid(t *testing.T, x, y, to api.Frac) api.Frac {
	t.Helper()
	z, e := ford.Between(x, y)
	for range 40 {
		z, e = ford.Between(z, to)
	}
	if e != api.OK {
		t.Fatal(e)
	}
	return z
}

func TestNextOfLast(t *testing.T) { // P23.7
	r := rand.New(rand.NewSource(2381))
	for k := range 2000 {
		n := 1 + r.Intn([]int{9, 1000, api.MaxFord}[k%3])
		x := fraction(plus(short(r, int64(n)), ofInt(full(r, 1+r.Intn(40)))))
		last, e := ford.Last(x, n)
		if e != api.OK {
			t.Fatal(e)
		}
		y, e := ford.Next(last, n)
		want(t, "Next of Last", y, e, x)
		next, e := ford.Next(x, n)
		if e != api.OK {
			t.Fatal(e)
		}
		y, e = ford.Last(next, n)
		want(t, "Last of Next", y, e, x)
		y, e = ford.Best(x, n)
		want(t, "Best of what has so small a Den", y, e, x)
	}
}

func TestAroundHoldsBoth(t *testing.T) { // P23.4, P23.7
	r := rand.New(rand.NewSource(2382))
	for range 200 {
		n := 1 + r.Intn(300)
		x := fraction(short(r, int64(n)))
		l := slices.Collect(ford.Around(x, n))
		for k, y := range l {
			ok, e := ford.Near(x, y)
			want(t, "Near of one around", ok, e, true)
			if k == 0 {
				continue
			}
			if order, _ := frac.Cmp(l[k-1], y); order >= 0 {
				t.Fatal("Around does not rise")
			}
		}
		last, _ := ford.Last(x, n)
		k := slices.Index(l, last)
		next, e := ford.Next(x, n)
		if k < 0 || k+1 == len(l) {
			t.Fatal("the last one is not around, or the next one is not")
		}
		want(t, "the one around behind Last", l[k+1], e, next)
	}
}

func TestUnderOfOver(t *testing.T) { // P23.7
	for _, x := range some() {
		y, e := ford.Under(over(t, x))
		want(t, "Under of Over", y, e, x)
	}
}

func TestWaysNeighbours(t *testing.T) { // P23.7
	r := rand.New(rand.NewSource(2383))
	for n := range 150 {
		x := fraction(fullRat(r, 1+n%6, 1+r.Intn(6)))
		sum := numbers.Of(0)
		for quotient := range frac.Quotients(x) {
			sum, _ = numbers.Add(sum, quotient)
		}
		steps, e := ford.Steps(x)
		want(t, "Steps, the sum of the quotients", steps, e, sum)
		l := slices.Collect(pairs(ford.Way(x)))
		for k, y := range l {
			order, e := frac.Cmp(x, y.x)
			want(t, "whether x is above", y.above, e, order > 0)
			if k > 0 {
				ok, e := ford.Near(l[k-1].x, y.x)
				want(t, "Near of two of a way", ok, e, true)
			}
		}
		if count, ok := numbers.Small(steps); ok && count <= api.MaxList {
			want(t, "the way's last one", l[len(l)-1], api.OK, told{false, x})
			want(t, "how many", int64(len(l)), api.OK, count)
		}
	}
}

// What is met has a point above x that is not outside of it.
func TestMetBySides(t *testing.T) { // P23.6
	r := rand.New(rand.NewSource(2384))
	for range 300 {
		near := short(r, 12)
		q := near.Denom().Int64()
		x, y := fraction(plus(near, rat(r.Int63n(9)-4, 4*q*q))), fraction(near)
		// At the height of the centre the disk is widest.
		d := over(t, y)
		high, e := frac.Div(frac.Int(1), d.Bend)
		if e != api.OK {
			t.Fatal(e)
		}
		side, e := descartes.Side(d, api.Point{Z: api.Gauss{Re: x, Im: high}})
		if e != api.OK {
			t.Fatal(e)
		}
		l, e := ford.Met(x, y)
		want(t, "Met", len(l) == 1, e, side <= 0)
	}
}
