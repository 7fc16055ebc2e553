package ford_test

import (
	"math/big"
	"math/rand"
	"slices"
	"testing"

	"tracery/api"
	"tracery/ford"
)

// metOf goes by the words: the way up from x meets the disk over y, if it is not
// further from its centre than its radius.
func metOf(x *big.Rat, l []*big.Rat) []int {
	var places []int
	for k, y := range l {
		q := ofInt(y.Denom())
		radius := quo(rat(1, 2), times(q, q))
		if magnitude(minus(x, y)).Cmp(radius) <= 0 {
			places = append(places, k)
		}
	}
	return places
}

func wantMet(t *testing.T, x *big.Rat, l []*big.Rat) []int {
	t.Helper()
	got, e := ford.Met(fraction(x), fractions(l)...)
	if e != api.OK {
		t.Fatalf("Met is refused: %v", e)
	}
	wantList(t, "Met of "+brief(fraction(x)), got, metOf(x, l))
	return got
}

func TestMet(t *testing.T) { // P23.6
	l := rowOf(20)
	for _, by := range []int64{1, -1, -3} {
		for _, x := range rowOf(5) {
			l = append(l, plus(x, rat(by, 1)))
		}
	}
	for _, x := range append(rowOf(24), rat(-1, 3), rat(-5, 2), rat(13, 10), rat(7, 1), golden(3), opposite(golden(4)), golden(500)) {
		wantMet(t, x, l)
	}
	for k, x := range given() {
		if k%3 == 0 {
			wantMet(t, x, given())
		}
	}
	r := rand.New(rand.NewSource(2370))
	seen := tally{}
	for range 200 {
		x := odd(r, 1+r.Intn(9))
		// Those that the quotients of x make are near to it: some of them are met.
		var near []*big.Rat
		a := quotients(x)
		for n := range min(len(a), 12) {
			var head []int64
			for _, b := range a[:n+1] {
				head = append(head, b.Int64())
			}
			if !slices.ContainsFunc(a[:n+1], func(b *big.Int) bool { return !b.IsInt64() }) {
				near = append(near, made(head...))
			}
		}
		n := len(wantMet(t, x, near))
		seen.when("some", n > 1)
		seen.when("not all", n < len(near))
	}
	seen.least(t, 20, "some", "not all")
}

func TestMetExamples(t *testing.T) { // P23.6
	l, e := ford.Met(of(1, 2), of(0, 1), of(1, 2), of(1, 1), of(1, 3))
	if e != api.OK {
		t.Fatal(e)
	}
	wantList(t, "Met of 1/2", l, []int{0, 1, 2})
	l, e = ford.Met(of(0, 1), of(1, 2), of(-1, 1))
	if len(l) != 0 || e != api.OK {
		t.Errorf("Met of 0 is %v, %v", l, e)
	}
	l, e = ford.Met(of(-1, 2), of(0, 1), of(0, 1), of(-1, 1), of(-1, 2), of(0, 1))
	if e != api.OK {
		t.Fatal(e)
	}
	wantList(t, "Met of -1/2", l, []int{0, 1, 2, 3, 4})
}

// At an edge a disk is met, and just beyond it is not.
func TestMetAtTheEdge(t *testing.T) { // P23.6
	seen := tally{}
	for _, y := range given() {
		q := ofInt(y.Denom())
		radius := quo(rat(1, 2), times(q, q))
		for _, size := range []uint{3, 60, 900, 4000} {
			tiny := times(radius, inverse(twos(size)))
			for _, side := range []int64{-1, 1} {
				for k, by := range []*big.Rat{radius, minus(radius, tiny), plus(radius, tiny), tiny, new(big.Rat)} {
					x := plus(y, times(by, rat(side, 1)))
					if !upTo(x) {
						continue
					}
					n := len(wantMet(t, x, []*big.Rat{y}))
					if met := k != 2; met != (n == 1) {
						t.Fatalf("%s is met: %v, want %v", brief(fraction(y)), n, met)
					}
					seen.when([]string{"at the edge", "within", "beyond", "near", "itself"}[k], true)
				}
			}
		}
	}
	seen.least(t, 100, "at the edge", "within", "beyond", "near", "itself")
}

func TestMetOfNone(t *testing.T) { // P23.6
	for _, x := range given() {
		for _, d := range [][]api.Frac{nil, {}} {
			l, e := ford.Met(fraction(x), d...)
			if len(l) != 0 || e != api.OK {
				t.Errorf("Met of none is %v, %v", l, e)
			}
		}
	}
}

func TestMetAtTheBound(t *testing.T) { // P23.6
	d := make([]api.Frac, api.MaxList+9)
	for k := range d {
		d[k] = of(int64(k%3), 2)
		if k%3 != 1 {
			d[k] = of(int64(k%3)/2, 1)
		}
	}
	for _, count := range []int{api.MaxList - 1, api.MaxList} {
		l, e := ford.Met(of(1, 2), d[:count]...)
		if len(l) != count || e != api.OK || l[count-1] != count-1 {
			t.Errorf("Met of %d is %d, %v", count, len(l), e)
		}
	}
	for _, count := range []int{api.MaxList + 1, api.MaxList + 9} {
		l, e := ford.Met(of(1, 2), d[:count]...)
		if l != nil || e != api.ErrLong {
			t.Errorf("Met of %d is %v, %v", count, l, e)
		}
	}
}

func TestMetRefuses(t *testing.T) { // P23.6
	refused := func(what string, wanted api.Errno, x api.Frac, d ...api.Frac) {
		t.Helper()
		if l, e := ford.Met(x, d...); l != nil || e != wanted {
			t.Fatalf("Met %s is %v, %v, want %v", what, l, e, wanted)
		}
	}
	many := slices.Repeat([]api.Frac{of(1, 2)}, api.MaxList+3)
	for _, x := range wrongFracs() {
		refused("of what may not be", api.ErrArg, x)
		refused("of what may not be", api.ErrArg, x, of(1, 2), of(0, 1))
		refused("of what may not be", api.ErrArg, x, many...)
		for k := range 3 {
			d := []api.Frac{of(0, 1), of(1, 2), of(1, 1)}
			d[k] = x
			refused("with what may not be", api.ErrArg, of(1, 2), d...)
		}
		for _, k := range []int{0, 77, api.MaxList - 1, api.MaxList, api.MaxList + 2} {
			d := slices.Clone(many)
			d[k] = x
			refused("of too many, with what may not be", api.ErrArg, of(1, 2), d...)
		}
	}
	refused("of too many", api.ErrLong, of(1, 2), many...)
}
