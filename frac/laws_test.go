package frac_test

import (
	"math/big"
	"math/rand"
	"slices"
	"testing"

	"tracery/api"
	"tracery/frac"
)

// triples goes over threes of fractions.
func triples(do func(x, y, z api.Frac)) {
	short := []api.Frac{over(0, 1), over(1, 1), over(-1, 1), over(1, 2), over(-3, 2), over(2, 3), over(22, 7), over(-1, 256), over(1<<40, 3)}
	for _, x := range short {
		for _, y := range short {
			for _, z := range short {
				do(x, y, z)
			}
		}
	}
	r := rand.New(rand.NewSource(13))
	for range 1500 {
		do(fraction(oddRat(r, 8)), fraction(oddRat(r, 8)), fraction(oddRat(r, 8)))
	}
}

func TestOrderAndGrouping(t *testing.T) { // P3.8, P0.1
	ok := must(t)
	triples(func(x, y, z api.Frac) {
		for _, do := range []ofTwo{frac.Add, frac.Mul} {
			if ok(do(x, y)) != ok(do(y, x)) || ok(do(ok(do(x, y)), z)) != ok(do(x, ok(do(y, z)))) {
				t.Fatalf("%s, %s, %s", brief(x), brief(y), brief(z))
			}
		}
		if ok(frac.Mul(x, ok(frac.Add(y, z)))) != ok(frac.Add(ok(frac.Mul(x, y)), ok(frac.Mul(x, z)))) {
			t.Fatalf("%s times the sum of %s, %s", brief(x), brief(y), brief(z))
		}
		if ok(frac.Sub(ok(frac.Add(x, y)), y)) != x || ok(frac.Add(x, ok(frac.Neg(y)))) != ok(frac.Sub(x, y)) {
			t.Fatalf("%s with and without %s", brief(x), brief(y))
		}
		if frac.Sign(y) != 0 && ok(frac.Div(ok(frac.Mul(x, y)), y)) != x {
			t.Fatalf("%s times and over %s", brief(x), brief(y))
		}
		order, e := frac.Cmp(x, y)
		if order != frac.Sign(ok(frac.Sub(x, y))) || e != api.OK {
			t.Fatalf("%s against %s: %d, %v", brief(x), brief(y), order, e)
		}
	})
}

func TestThereAndBack(t *testing.T) { // P3.8, P0.12
	ok := must(t)
	check := func(x api.Frac) {
		if l := slices.Collect(frac.Quotients(x)); len(l) <= api.MaxList && ok(frac.Make(l...)) != x {
			t.Fatalf("made of its quotients, %s is another one", brief(x))
		}
		s, e := frac.Text(x)
		if e != api.OK || ok(frac.Read(s)) != x {
			t.Fatalf("read from its text, %s is another one", brief(x))
		}
		if ok(frac.Simplest(x, x)) != x {
			t.Fatalf("from %s to itself there is another one", brief(x))
		}
	}
	ones(func(r *big.Rat) { check(fraction(r)) })
	for _, x := range good() {
		check(x)
	}
}

// lessSimple tells whether x is less simple than y.
func lessSimple(x, y api.Frac) bool {
	a, b := ratOf(x), ratOf(y)
	if order := a.Denom().Cmp(b.Denom()); order != 0 {
		return order > 0
	}
	if order := a.Num().CmpAbs(b.Num()); order != 0 {
		return order > 0
	}
	return a.Sign() < b.Sign()
}

func TestWiderBoundsAreNoLessSimple(t *testing.T) { // P3.8
	ok := must(t)
	triples(func(x, y, z api.Frac) {
		l := []api.Frac{x, y, z}
		slices.SortFunc(l, func(x, y api.Frac) int {
			order, _ := frac.Cmp(x, y)
			return order
		})
		all := ok(frac.Simplest(l[0], l[2]))
		for _, part := range []api.Frac{ok(frac.Simplest(l[0], l[1])), ok(frac.Simplest(l[1], l[2])), l[0], l[1], l[2]} {
			if lessSimple(all, part) {
				t.Fatalf("%s of the wider bounds, %s within", brief(all), brief(part))
			}
		}
		under, _ := frac.Cmp(l[0], all)
		above, _ := frac.Cmp(all, l[2])
		if under > 0 || above > 0 {
			t.Fatalf("%s is not between", brief(all))
		}
	})
}

func TestRoundsAreNear(t *testing.T) { // P3.8
	ok := must(t)
	triples(func(x, y, z api.Frac) {
		floor, e := frac.Floor(x)
		nearest, f := frac.Nearest(x)
		if e != api.OK || f != api.OK {
			t.Fatal(e, f)
		}
		above := ok(frac.Sub(x, ok(frac.Of(floor, small(1)))))
		if order, e := frac.Cmp(above, over(1, 1)); frac.Sign(above) < 0 || order >= 0 || e != api.OK {
			t.Fatalf("%s is %s above what it is rounded down to", brief(x), brief(above))
		}
		off := ok(frac.Abs(ok(frac.Sub(x, ok(frac.Of(nearest, small(1)))))))
		if order, e := frac.Cmp(off, over(1, 2)); order > 0 || e != api.OK {
			t.Fatalf("%s is %s off the nearest", brief(x), brief(off))
		}
	})
}
