package ford_test

import (
	"math/big"
	"math/rand"
	"testing"

	"tracery/api"
	"tracery/ford"
)

// bestOf goes by the words: of each Den up to n the two about x are asked.
func bestOf(x *big.Rat, n int) (best *big.Rat, ties bool) {
	var least *big.Rat
	for s := int64(1); s <= int64(n); s++ {
		low := floor(times(x, rat(s, 1)))
		for _, num := range []*big.Int{low, more(low, 1)} {
			y := ratio(num, big.NewInt(s))
			off := magnitude(minus(y, x))
			order := -1
			if least != nil {
				order = off.Cmp(least)
			}
			if order == 0 && y.Cmp(best) != 0 {
				ties = true
			}
			if order < 0 {
				ties = false
			}
			if order < 0 || order == 0 && simpler(y, best) {
				best, least = y, off
			}
		}
	}
	return best, ties
}

func wantBest(t *testing.T, seen tally, x *big.Rat, n int) {
	t.Helper()
	wanted, ties := bestOf(x, n)
	got, e := ford.Best(fraction(x), n)
	want(t, "Best of "+brief(fraction(x))+" by "+brief(n), got, e, fraction(wanted))
	seen.when("ties", ties)
	seen.when("itself", wanted.Cmp(x) == 0)
	seen.when("above", wanted.Cmp(x) > 0)
	seen.when("below", wanted.Cmp(x) < 0)
	seen.when("longer", len(wanted.Num().Bytes()) > len(x.Num().Bytes()) || wanted.Denom().Cmp(x.Denom()) > 0)
}

func TestBest(t *testing.T) { // P23.3
	seen := tally{}
	for n := 1; n <= 9; n++ {
		for q := int64(1); q <= 26; q++ {
			for p := -2 * q; p <= 2*q; p++ {
				wantBest(t, seen, rat(p, q), n)
			}
		}
	}
	r := rand.New(rand.NewSource(2340))
	for range 200 {
		n := 1 + r.Intn(60)
		wantBest(t, seen, odd(r, 1+r.Intn(9)), n)
		wantBest(t, seen, short(r, int64(2*n)), n)
	}
	for _, x := range given() {
		for _, n := range []int{1, 2, 7, 20} {
			wantBest(t, seen, x, n)
		}
	}
	seen.least(t, 20, "ties", "itself", "above", "below")
	if seen["longer"] > 0 {
		t.Error("an answer is longer")
	}
}

func TestBestExamples(t *testing.T) { // P23.3
	for _, c := range []struct {
		x      api.Frac
		n      int
		wanted api.Frac
	}{
		{of(3, 8), 2, of(1, 2)}, {of(1, 4), 2, of(0, 1)}, {of(7, 5), 1, of(1, 1)}, {of(1, 2), 1, of(0, 1)}, {of(-1, 2), 1, of(0, 1)}, {of(3, 2), 1, of(1, 1)}, {of(-3, 2), 1, of(-1, 1)}, {of(-1, 4), 2, of(0, 1)},
		{of(3, 4), 2, of(1, 1)}, {of(-3, 4), 2, of(-1, 1)}, {of(1, 2), 2, of(1, 2)}, {of(314159, 100000), 113, of(355, 113)}, {of(314159, 100000), 112, of(333, 106)}, {of(314159, 100000), 7, of(22, 7)}, {of(1, api.MaxFord), api.MaxFord, of(1, api.MaxFord)},
		{of(1, api.MaxFord+1), api.MaxFord, of(1, api.MaxFord)}, {of(1, 2*api.MaxFord), api.MaxFord, of(0, 1)}, {of(1, 2*api.MaxFord-1), api.MaxFord, of(1, api.MaxFord)}, {of(1, 2*api.MaxFord+1), api.MaxFord, of(0, 1)},
	} {
		got, e := ford.Best(c.x, c.n)
		want(t, "Best of "+brief(c.x), got, e, c.wanted)
	}
}

// In the middle between two of a row both are as near.
func TestBestInTheMiddle(t *testing.T) { // P23.3
	seen := tally{}
	for _, n := range []int{1, 2, 3, 8, 12} {
		row := rowOf(int64(n))
		for k := range len(row) - 1 {
			for _, by := range []int64{0, 1, -1, 7, -8} {
				x := plus(mean(row[k], row[k+1]), rat(by, 1))
				wantBest(t, seen, x, n)
				tiny := inverse(twos(900))
				seen.when("in the middle", true)
				wantBest(t, tally{}, plus(x, tiny), n)
				wantBest(t, tally{}, minus(x, tiny), n)
			}
		}
	}
	if seen["ties"] != seen["in the middle"] {
		t.Error("the middle is no middle")
	}
	// One that is far from 0, too: then it is whole, or has the lesser Den.
	far := ofInt(shared(top(), 16))
	wantBest(t, seen, plus(far, rat(1, 2)), 1)
	wantBest(t, seen, opposite(plus(far, rat(1, 2))), 1)
	wantBest(t, seen, plus(far, rat(1, 4)), 3)
	wantBest(t, seen, plus(far, rat(5, 12)), 3)
}

func TestBestFarOn(t *testing.T) { // P23.3
	r := rand.New(rand.NewSource(2341))
	seen := tally{}
	for _, x := range []*big.Rat{golden(20), opposite(golden(20)), fullRat(r, 20, 20), fullRat(r, 3, 20), rat(1, 2*api.MaxFord), made(3, 7, 15, 1, 292, 1, 1, 1, 2, 1, 3, 1, 14)} {
		wantBest(t, seen, x, api.MaxFord)
	}
	// Here the words are those of the row: the two about x hold x between them,
	// are neighbours, and their Dens together are above n.
	for range 2000 {
		n := 1 + r.Intn(api.MaxFord)
		x := odd(r, 1+r.Intn(40))
		got, e := ford.Best(fraction(x), n)
		if e != api.OK {
			t.Fatal(e)
		}
		y := ratOf(got)
		if x.Denom().Cmp(big.NewInt(int64(n))) <= 0 {
			want(t, "Best of what has so small a Den", got, e, fraction(x))
			continue
		}
		low, high := around(y, n, x.Cmp(y))
		if low.Cmp(x) > 0 || high.Cmp(x) < 0 {
			t.Fatalf("%s is not between %s and %s", brief(fraction(x)), brief(fraction(low)), brief(fraction(high)))
		}
		other := low
		if y.Cmp(low) == 0 {
			other = high
		}
		if c := magnitude(minus(x, y)).Cmp(magnitude(minus(x, other))); c > 0 || c == 0 && simpler(other, y) {
			t.Fatalf("Best of %s by %d is %s", brief(fraction(x)), n, brief(got))
		}
	}
}

// around answers y and what is beside it in its row, on that side.
func around(y *big.Rat, n, side int) (low, high *big.Rat) {
	twin := twins(y)[0]
	if cross(twin, y).Sign() != side {
		twin = twins(y)[1]
	}
	// All neighbours have the numbers of one, and so many times those of y.
	count := quoInt(lessInt(big.NewInt(int64(n)), twin.Denom()), y.Denom())
	other := ratio(plusInt(twin.Num(), timesInt(count, y.Num())), plusInt(twin.Denom(), timesInt(count, y.Denom())))
	if side < 0 {
		return other, y
	}
	return y, other
}

func TestBestRefuses(t *testing.T) { // P23.3
	for _, x := range wrongFracs() {
		for _, n := range append(wrongCounts(), 1, 2, 4, api.MaxFord) {
			y, e := ford.Best(x, n)
			wantNone(t, "Best of what may not be", y, e, api.ErrArg)
		}
	}
	for _, n := range wrongCounts() {
		for _, x := range given() {
			y, e := ford.Best(fraction(x), n)
			wantNone(t, "Best by a wrong n", y, e, api.ErrArg)
		}
	}
}
