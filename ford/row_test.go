package ford_test

import (
	"math/big"
	"slices"
	"testing"

	"tracery/api"
	"tracery/ford"
)

// rowOf is the row of n by its words: all fractions from 0 to 1 with such a Den.
func rowOf(n int64) []*big.Rat {
	var l []*big.Rat
	for q := int64(1); q <= n; q++ {
		for p := int64(0); p <= q; p++ {
			l = append(l, rat(p, q))
		}
	}
	slices.SortFunc(l, (*big.Rat).Cmp)
	return slices.CompactFunc(l, func(x, y *big.Rat) bool { return x.Cmp(y) == 0 })
}

func TestRow(t *testing.T) { // P23.3
	for n := 1; n <= 40; n++ {
		wantList(t, "Row", slices.Collect(ford.Row(n)), fractions(rowOf(int64(n))))
	}
	wantList(t, "Row of 300", slices.Collect(ford.Row(300)), fractions(rowOf(300)))
	wantList(t, "Row of 1", slices.Collect(ford.Row(1)), []api.Frac{of(0, 1), of(1, 1)})
	wantList(t, "Row of 2", slices.Collect(ford.Row(2)), []api.Frac{of(0, 1), of(1, 2), of(1, 1)})
	wantList(t, "Row of 4", slices.Collect(ford.Row(4)), []api.Frac{of(0, 1), of(1, 4), of(1, 3), of(1, 2), of(2, 3), of(3, 4), of(1, 1)})
}

func int64Of(a api.Whole) int64 { return new(big.Int).SetBytes([]byte(a.Mag)).Int64() }

// A row is whole, if it begins with 0 and ends with 1, and two that are next to
// each other are neighbours whose Dens together are above n: no other one with
// so small a Den is between them.
func TestLongRow(t *testing.T) { // P23.3
	const n = 1500
	count, p, q := 0, int64(-1), int64(n) // what stands ahead of 0
	for x := range ford.Row(n) {
		r, s := int64Of(x.Num), int64Of(x.Den)
		if x.Num.Neg || x.Den.Neg || r*q-p*s != 1 || q+s <= n || s > n {
			t.Fatalf("%d/%d stands behind %d/%d", r, s, p, q)
		}
		if count++; count == 1 && (r != 0 || s != 1) {
			t.Fatalf("the row begins with %d/%d", r, s)
		}
		p, q = r, s
	}
	if p != 1 || q != 1 {
		t.Errorf("the row ends with %d/%d", p, q)
	}
	wanted := 1 // and as many as numbers below q have nothing in common with it
	for q := int64(1); q <= n; q++ {
		for p := int64(1); p <= q; p++ {
			if new(big.Int).GCD(nil, nil, big.NewInt(p), big.NewInt(q)).Int64() == 1 {
				wanted++
			}
		}
	}
	if count != wanted {
		t.Errorf("the row has %d, want %d", count, wanted)
	}
}

// The longest row is left behind its beginning: there 1/n, 1/(n - 1) .. stand,
// and from 2/n on those with 2 above among them.
func TestLongestRow(t *testing.T) { // P23.3
	count, last := 0, of(0, 1)
	for x := range ford.Row(api.MaxFord) {
		switch {
		case count == 0:
			want(t, "the first one", x, api.OK, of(0, 1))
		case count <= api.MaxFord/2:
			want(t, "one of the beginning", x, api.OK, of(1, int64(api.MaxFord-count+1)))
		default:
			p, q, r, s := int64Of(last.Num), int64Of(last.Den), int64Of(x.Num), int64Of(x.Den)
			if r*q-p*s != 1 || q+s <= api.MaxFord || s > api.MaxFord {
				t.Fatalf("%d/%d stands behind %d/%d", r, s, p, q)
			}
		}
		last = x
		if count++; count == 300000 {
			break
		}
	}
	if count != 300000 {
		t.Errorf("the row ends behind %d", count)
	}
}

func TestRowIsLeft(t *testing.T) { // P23.3
	for _, n := range []int64{1, 2, 3, 8, 13} {
		wantIterator(t, "Row", ford.Row(int(n)), fractions(rowOf(n)))
	}
	l := first(ford.Row(api.MaxFord), 3)
	wantList(t, "Row, left", l, []api.Frac{of(0, 1), of(1, api.MaxFord), of(1, api.MaxFord-1)})
}

func TestRowRefuses(t *testing.T) { // P23.3
	for _, n := range wrongCounts() {
		wantNothing(t, "Row", ford.Row(n))
	}
}
