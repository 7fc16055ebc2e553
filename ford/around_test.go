package ford_test

import (
	"math/big"
	"math/rand"
	"slices"
	"testing"

	"tracery/api"
	"tracery/ford"
)

// aroundOf goes by the words: of each Den up to n the two are asked that could
// be neighbours of x.
func aroundOf(x *big.Rat, n int) []*big.Rat {
	if x.Denom().Cmp(big.NewInt(int64(n))) > 0 {
		return nil
	}
	var l []*big.Rat
	for s := int64(1); s <= int64(n); s++ {
		low := floor(times(x, rat(s, 1)))
		for by := int64(-1); by <= 1; by++ {
			num := more(low, by)
			if lowest := ratio(num, big.NewInt(s)); lowest.Denom().Int64() == s && neighbours(x, lowest) {
				l = append(l, lowest)
			}
		}
	}
	slices.SortFunc(l, (*big.Rat).Cmp)
	return l
}

// fitting leaves out those that are too big.
func fitting(l []*big.Rat) []*big.Rat {
	return slices.DeleteFunc(slices.Clone(l), func(x *big.Rat) bool { return !upTo(x) })
}

func wantAround(t *testing.T, seen tally, x *big.Rat, n int) {
	t.Helper()
	all := aroundOf(x, n)
	wanted := fitting(all)
	wantList(t, "Around of "+brief(fraction(x))+" by "+brief(n), slices.Collect(ford.Around(fraction(x), n)), fractions(wanted))
	seen.when("none", len(all) == 0)
	seen.when("some", len(wanted) > 0)
	seen.when("some too big, others not", len(wanted) > 0 && len(wanted) < len(all))
	seen.when("all too big", len(wanted) == 0 && len(all) > 0)
	seen.when("a side too big", len(wanted) > 0 && (wanted[0].Cmp(x) > 0 || wanted[len(wanted)-1].Cmp(x) < 0))
}

func TestAround(t *testing.T) { // P23.4
	seen := tally{}
	for n := 1; n <= 12; n++ {
		for q := int64(1); q <= int64(n)+1; q++ {
			for p := -2*q - 1; p <= 2*q+1; p++ {
				wantAround(t, seen, rat(p, q), n)
			}
		}
	}
	r := rand.New(rand.NewSource(2350))
	for range 200 {
		n := 1 + r.Intn(200)
		wantAround(t, seen, short(r, int64(n)), n)
		wantAround(t, seen, plus(short(r, int64(n)), ofInt(full(r, 1+r.Intn(30)))), n)
	}
	for _, x := range given() {
		wantAround(t, seen, x, 1)
		wantAround(t, seen, x, 9)
	}
	seen.least(t, 50, "none", "some")
}

func TestAroundExamples(t *testing.T) { // P23.4
	l := slices.Collect(ford.Around(of(1, 2), 5))
	wantList(t, "Around of 1/2 by 5", l, []api.Frac{of(0, 1), of(1, 3), of(2, 5), of(3, 5), of(2, 3), of(1, 1)})
	l = slices.Collect(ford.Around(of(0, 1), 2))
	wantList(t, "Around of 0 by 2", l, []api.Frac{of(-1, 1), of(-1, 2), of(1, 2), of(1, 1)})
	l = slices.Collect(ford.Around(of(-3, 1), 1))
	wantList(t, "Around of -3 by 1", l, []api.Frac{of(-4, 1), of(-2, 1)})
	l = slices.Collect(ford.Around(of(3, 5), 5))
	wantList(t, "Around of 3/5 by 5", l, []api.Frac{of(1, 2), of(2, 3)})
	l = slices.Collect(ford.Around(of(1, api.MaxFord), api.MaxFord))
	wantList(t, "Around of the least one", l, []api.Frac{of(0, 1), of(1, api.MaxFord-1)})
}

// All neighbours of 0 are 1/s and -1/s.
func TestAroundFarOn(t *testing.T) { // P23.4
	k := int64(0)
	for x := range ford.Around(of(0, 1), api.MaxFord) {
		wanted := of(-1, 1)
		switch k++; {
		case k <= api.MaxFord:
			wanted = of(-1, k)
		default:
			wanted = of(1, 2*api.MaxFord-k+1)
		}
		want(t, "a neighbour of 0", x, api.OK, wanted)
	}
	if k != 2*api.MaxFord {
		t.Errorf("0 has %d neighbours", k)
	}
	for _, x := range []*big.Rat{rat(355, 113), rat(-31415, 9999), rat(99999, 100000), rat(12345678, 4999)} {
		wantAround(t, tally{}, x, api.MaxFord)
	}
}

// Those that are nearer to x have the greater numbers: so just some of them are
// too big, and those behind these are told again.
func TestAroundTooBig(t *testing.T) { // P23.4
	seen := tally{}
	for _, n := range []int{1, 2, 5, 12, 40} {
		for _, by := range []int64{1, 2, 3, 5, 30, 300} {
			for q := int64(1); q <= min(5, int64(n)); q++ {
				for off := int64(-1); off <= 1; off++ {
					x := ratio(more(shared(top(), by), off), big.NewInt(q))
					if upTo(x) {
						wantAround(t, seen, x, n)
						wantAround(t, seen, opposite(x), n)
					}
				}
			}
		}
	}
	seen.least(t, 20, "some too big, others not", "some")
	seen.least(t, 2, "a side too big")
	// Of the greatest one those above are too big, and below just one is not.
	l := slices.Collect(ford.Around(fraction(ofInt(top())), api.MaxFord))
	wantList(t, "Around of the greatest one", l, []api.Frac{fraction(ofInt(more(top(), -1)))})
	l = slices.Collect(ford.Around(fraction(opposite(ofInt(top()))), 9))
	wantList(t, "Around of the least one", l, []api.Frac{fraction(ofInt(more(new(big.Int).Neg(top()), 1)))})
}

func TestAroundIsLeft(t *testing.T) { // P23.4
	for _, x := range []*big.Rat{rat(0, 1), rat(1, 2), rat(-7, 3), rat(5, 1), ofInt(shared(top(), 5)), ratio(shared(top(), 7), big.NewInt(2))} {
		for _, n := range []int{1, 3, 8, 15} {
			wantIterator(t, "Around", ford.Around(fraction(x), n), fractions(fitting(aroundOf(x, n))))
		}
	}
}

func TestAroundRefuses(t *testing.T) { // P23.4
	for _, x := range wrongFracs() {
		for _, n := range append(wrongCounts(), 1, 2, 9, api.MaxFord) {
			wantNothing(t, "Around of what may not be", ford.Around(x, n))
		}
	}
	for _, n := range wrongCounts() {
		for _, x := range []api.Frac{of(0, 1), of(1, 2), fraction(ofInt(top()))} {
			wantNothing(t, "Around by a wrong n", ford.Around(x, n))
		}
	}
	for _, n := range []int64{1, 2, 9, api.MaxFord} {
		wantNothing(t, "Around of a Den above n", ford.Around(of(1, n+1), int(n)))
		wantNothing(t, "Around of a long Den", ford.Around(fraction(inverse(top())), int(n)))
		wantNothing(t, "Around of a long Den", ford.Around(fraction(inverse(more(twos(64), 1))), int(n)))
		if l := first(ford.Around(of(1, n), int(n)), 1); len(l) != 1 {
			t.Errorf("Around of 1/%d by %d tells nothing", n, n)
		}
	}
}
