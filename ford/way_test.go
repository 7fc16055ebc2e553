package ford_test

import (
	"math/big"
	"math/rand"
	"slices"
	"testing"

	"tracery/api"
	"tracery/ford"
)

// wayOf goes by the chapter's words, for so many steps.
func wayOf(x *big.Rat, most int) []told {
	var l []told
	p, q, r, s := big.NewInt(0), big.NewInt(1), big.NewInt(1), big.NewInt(0)
	for len(l) < most {
		a, b := plusInt(p, r), plusInt(q, s)
		// x against a/b
		order := timesInt(x.Num(), b).Cmp(timesInt(a, x.Denom()))
		l = append(l, told{order > 0, api.Frac{Num: whole(a), Den: whole(b)}})
		switch {
		case order == 0:
			return l
		case order < 0:
			r, s = a, b
		default:
			p, q = a, b
		}
	}
	return l
}

func wantWay(t *testing.T, x *big.Rat) []told {
	t.Helper()
	l := slices.Collect(pairs(ford.Way(fraction(x))))
	if x.Sign() <= 0 {
		wantList(t, "Way of what is not above 0", l, nil)
		return l
	}
	wantList(t, "Way of "+brief(fraction(x)), l, wayOf(x, api.MaxList))
	return l
}

// stepsOf is the sum of the quotients.
func stepsOf(x *big.Rat) *big.Int {
	sum := new(big.Int)
	for _, a := range quotients(x) {
		sum.Add(sum, a)
	}
	return sum
}

func wantSteps(t *testing.T, x *big.Rat) {
	t.Helper()
	n, e := ford.Steps(fraction(x))
	if x.Sign() <= 0 {
		wantNone(t, "Steps of what is not above 0", n, e, api.ErrArg)
		return
	}
	want(t, "Steps of "+brief(fraction(x)), n, e, whole(stepsOf(x)))
}

func TestWay(t *testing.T) { // P23.5
	for q := int64(1); q <= 30; q++ {
		for p := -q; p <= 3*q; p++ {
			x := rat(p, q)
			l := wantWay(t, x)
			wantSteps(t, x)
			// The way itself tells how many there are.
			if n, _ := ford.Steps(fraction(x)); x.Sign() > 0 && n != small(int64(len(l))) {
				t.Fatalf("Steps of %v is %s, the way has %d", x, brief(n), len(l))
			}
		}
	}
	seen := tally{}
	for _, x := range given() {
		l := wantWay(t, x)
		wantSteps(t, x)
		seen.when("cut off", len(l) == api.MaxList)
		seen.when("whole", len(l) > 0 && len(l) < api.MaxList)
		seen.when("none", len(l) == 0)
	}
	seen.least(t, 9, "cut off", "whole", "none")
	r := rand.New(rand.NewSource(2360))
	for range 100 {
		x := odd(r, 1+r.Intn(100))
		wantWay(t, x)
		wantSteps(t, x)
	}
}

func TestWayExamples(t *testing.T) { // P23.5
	l := slices.Collect(pairs(ford.Way(of(3, 5))))
	wantList(t, "Way of 3/5", l, []told{{false, of(1, 1)}, {true, of(1, 2)}, {false, of(2, 3)}, {false, of(3, 5)}})
	l = slices.Collect(pairs(ford.Way(of(1, 1))))
	wantList(t, "Way of 1", l, []told{{false, of(1, 1)}})
	l = slices.Collect(pairs(ford.Way(of(3, 1))))
	wantList(t, "Way of 3", l, []told{{true, of(1, 1)}, {true, of(2, 1)}, {false, of(3, 1)}})
	l = slices.Collect(pairs(ford.Way(of(1, 3))))
	wantList(t, "Way of 1/3", l, []told{{false, of(1, 1)}, {false, of(1, 2)}, {false, of(1, 3)}})
	for x, n := range map[api.Frac]int64{of(3, 5): 4, of(1, 1): 1, of(7, 1): 7, of(1, 7): 7, of(355, 113): 26} {
		got, e := ford.Steps(x)
		want(t, "Steps of "+brief(x), got, e, small(n))
	}
	n, e := ford.Steps(of(0, 1))
	wantNone(t, "Steps of 0", n, e, api.ErrArg)
}

// Ways of just MaxList, of one more, one less, far more.
func TestWayAtTheBound(t *testing.T) { // P23.5
	for _, n := range []int64{api.MaxList - 1, api.MaxList, api.MaxList + 1, api.MaxList + 2, 2 * api.MaxList, 1 << 40} {
		for _, x := range []*big.Rat{rat(n, 1), rat(1, n), made(1, n-1), made(0, 2, n-2), made(5, 6, n-11), made(100, n-102, 2)} {
			l := wantWay(t, x)
			if len(l) != int(min(n, api.MaxList)) {
				t.Fatalf("a way of %d has %d", n, len(l))
			}
			if last := l[len(l)-1]; (last == told{false, fraction(x)}) != (n <= api.MaxList) {
				t.Fatalf("a way of %d ends with %s", n, brief(last))
			}
			wantSteps(t, x)
			steps, e := ford.Steps(fraction(x))
			want(t, "Steps", steps, e, small(n))
		}
	}
	for _, x := range []*big.Rat{ofInt(top()), inverse(top())} {
		n, e := ford.Steps(fraction(x))
		want(t, "Steps of the longest way", n, e, whole(top()))
		wantWay(t, x)
	}
	n, e := ford.Steps(fraction(ratio(more(top(), -1), top())))
	want(t, "Steps of what is next to 1", n, e, whole(top()))
}

func TestWayIsLeft(t *testing.T) { // P23.5
	for _, x := range []*big.Rat{rat(1, 1), rat(3, 5), rat(40, 1), rat(1, 40), golden(9), made(2, 3, 4, 5)} {
		wantIterator(t, "Way", pairs(ford.Way(fraction(x))), wayOf(x, api.MaxList))
	}
	calls := 0
	ford.Way(fraction(golden(api.MaxWhole)))(func(bool, api.Frac) bool {
		calls++
		return false
	})
	if calls != 1 {
		t.Errorf("Way goes on for %d, though it was left at once", calls)
	}
}

func TestWayRefuses(t *testing.T) { // P23.5
	for _, x := range append(wrongFracs(), of(0, 1), of(-1, 1), of(-3, 5), fraction(opposite(ofInt(top()))), fraction(opposite(inverse(top())))) {
		wantNothing(t, "Way", pairs(ford.Way(x)))
		n, e := ford.Steps(x)
		wantNone(t, "Steps", n, e, api.ErrArg)
	}
}
