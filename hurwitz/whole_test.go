package hurwitz_test

import (
	"math/big"
	"math/rand"
	"testing"

	"tracery/api"
	"tracery/hurwitz"
)

func TestWhole(t *testing.T) { // P24.1
	for _, z := range wholes() {
		if !hurwitz.Whole(z.gauss()) {
			t.Errorf("%s is told not to be whole", brief(z))
		}
	}
	for k, z := range notWhole() {
		if hurwitz.Whole(z) {
			t.Errorf("%d: %s is told to be whole", k, brief(z))
		}
	}
}

func wantNearest(t *testing.T, z num) {
	t.Helper()
	got, e := hurwitz.Nearest(z.gauss())
	want(t, "Nearest of "+brief(z), got, e, z.near().gauss())
}

func TestNearest(t *testing.T) { // P24.1
	for d := int64(1); d <= 8; d++ {
		for a := -3 * d; a <= 3*d; a++ {
			for b := -3 * d; b <= 3*d; b++ {
				wantNearest(t, frac(a, d, b, d))
			}
		}
	}
	for _, z := range append(nums(), longs()...) {
		wantNearest(t, z)
		wantNearest(t, z.opposite())
	}
	r := rand.New(rand.NewSource(2410))
	for range 500 {
		wantNearest(t, someNum(r, 1+r.Intn(60)))
	}
}

func TestNearestExamples(t *testing.T) { // P24.1
	for _, c := range []struct {
		z      num
		wanted cell
	}{
		{frac(1, 2, 3, 2), is(0, 2)}, {frac(-7, 3, 2, 3), is(-2, 1)}, {frac(-1, 2, -3, 2), is(0, -2)}, {frac(5, 2, -5, 2), is(2, -2)}, {frac(7, 2, -7, 2), is(4, -4)}, {frac(1, 2, 1, 3), is(0, 0)}, {frac(-1, 3, 3, 2), is(0, 2)}, {frac(0, 1, -1, 2), is(0, 0)}, {frac(7, 1, -9, 1), is(7, -9)}, {frac(0, 1, 0, 1), is(0, 0)},
	} {
		got, e := hurwitz.Nearest(c.z.gauss())
		want(t, "Nearest of "+brief(c.z), got, e, c.wanted.gauss())
	}
}

// About a half, on both sides of 0, and with long numbers.
func TestNearestHalves(t *testing.T) { // P24.1
	tiny := inverse(twos(4000))
	for n := int64(-5); n <= 5; n++ {
		even := n
		if n%2 != 0 {
			even = n + 1
		}
		half := plus(rat(n, 1), rat(1, 2))
		for x, near := range map[*big.Rat]int64{half: even, minus(half, tiny): n, plus(half, tiny): n + 1} {
			got, e := hurwitz.Nearest(num{x, half}.gauss())
			want(t, "Nearest about a half", got, e, is(near, even).gauss())
			got, e = hurwitz.Nearest(num{half, x}.gauss())
			want(t, "Nearest about a half", got, e, is(even, near).gauss())
		}
	}
	// The greatest ones: what is rounded has a Den of 2 at least, and so the nearest
	// one is half as long a number at most; whole ones stay.
	half, under := ratio(top(), big.NewInt(2)), ratio(more(top(), -2), big.NewInt(2))
	got, e := hurwitz.Nearest(num{half, opposite(half)}.gauss())
	want(t, "Nearest of the greatest half", got, e, cell{shared(past(), 2), negInt(shared(past(), 2))}.gauss())
	got, e = hurwitz.Nearest(num{under, opposite(under)}.gauss())
	want(t, "Nearest of the next half", got, e, cell{more(shared(past(), 2), -2), negInt(more(shared(past(), 2), -2))}.gauss())
	for _, z := range []cell{{top(), top()}, {negInt(top()), big.NewInt(0)}, {big.NewInt(0), negInt(top())}} {
		got, e = hurwitz.Nearest(z.gauss())
		want(t, "Nearest of the longest", got, e, z.gauss())
	}
	// It has one byte more than what is rounded down.
	for _, count := range []uint{1, 2, 500, api.MaxWhole - 1} {
		x := minus(ofInt(twos(8*count)), rat(1, 3))
		got, e = hurwitz.Nearest(num{x, opposite(x)}.gauss())
		want(t, "Nearest with one byte more", got, e, cell{twos(8 * count), negInt(twos(8 * count))}.gauss())
	}
}

func TestNearestRefuses(t *testing.T) { // P24.1
	for _, z := range wrong() {
		got, e := hurwitz.Nearest(z)
		wantNone(t, "Nearest of what may not be", got, e, api.ErrArg)
	}
}

func TestFirst(t *testing.T) { // P24.3
	for _, z := range wholes() {
		for k := range 4 {
			w := z.turned(k)
			got, n, e := hurwitz.First(w.gauss())
			want(t, "First of "+brief(w), got, e, w.turned(w.turns()).gauss())
			want(t, "the power of i that brings "+brief(w), n, e, w.turns())
		}
	}
}

func TestFirstExamples(t *testing.T) { // P24.3
	for _, c := range []struct {
		z, wanted cell
		k         int
	}{
		{is(-2, 0), is(2, 0), 2}, {is(0, -2), is(2, 0), 1}, {is(3, 1), is(3, 1), 0}, {is(0, 5), is(5, 0), 3}, {is(0, 0), is(0, 0), 0}, {is(7, 0), is(7, 0), 0}, {is(1, -3), is(3, 1), 1}, {is(-3, -1), is(3, 1), 2}, {is(-1, 3), is(3, 1), 3},
		{cell{top(), negInt(top())}, cell{top(), top()}, 1}, {cell{negInt(top()), big.NewInt(1)}, cell{big.NewInt(1), top()}, 3},
	} {
		got, k, e := hurwitz.First(c.z.gauss())
		want(t, "First of "+brief(c.z), got, e, c.wanted.gauss())
		want(t, "the power of i that brings "+brief(c.z), k, e, c.k)
	}
}

func TestFirstRefuses(t *testing.T) { // P24.3
	for _, z := range notWhole() {
		got, k, e := hurwitz.First(z)
		wantNone(t, "First of what is not whole", got, e, api.ErrArg)
		if k != 0 {
			t.Errorf("beside an error stands %d", k)
		}
	}
}
