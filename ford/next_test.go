package ford_test

import (
	"math/big"
	"math/rand"
	"testing"

	"tracery/api"
	"tracery/ford"
)

// nextOf goes by the words: of all Dens up to n the least fraction above x.
func nextOf(x *big.Rat, n int) *big.Rat {
	var least *big.Rat
	for s := int64(1); s <= int64(n); s++ {
		y := ratio(more(floor(times(x, rat(s, 1))), 1), big.NewInt(s))
		if least == nil || y.Cmp(least) < 0 {
			least = y
		}
	}
	return least
}

func lastOf(x *big.Rat, n int) *big.Rat { return opposite(nextOf(opposite(x), n)) }

func wantBeside(t *testing.T, seen tally, x *big.Rat, n int) {
	t.Helper()
	what := " of " + brief(fraction(x)) + " by " + brief(n)
	next, e := ford.Next(fraction(x), n)
	if x.Denom().Cmp(big.NewInt(int64(n))) > 0 {
		wantNone(t, "Next"+what, next, e, api.ErrArg)
		last, e := ford.Last(fraction(x), n)
		wantNone(t, "Last"+what, last, e, api.ErrArg)
		seen.when("Den above n", true)
		return
	}
	wanted := nextOf(x, n)
	wantFrac(t, "Next"+what, next, e, wanted)
	seen.fit(upTo(wanted))
	last, e := ford.Last(fraction(x), n)
	wanted = lastOf(x, n)
	wantFrac(t, "Last"+what, last, e, wanted)
	seen.fit(upTo(wanted))
}

func TestBeside(t *testing.T) { // P23.3
	seen := tally{}
	for n := 1; n <= 12; n++ {
		for q := int64(1); q <= int64(n)+1; q++ {
			for p := -2*q - 1; p <= 2*q+1; p++ {
				wantBeside(t, seen, rat(p, q), n)
			}
		}
	}
	r := rand.New(rand.NewSource(2330))
	for range 200 {
		n := 1 + r.Intn(300)
		wantBeside(t, seen, short(r, int64(n)), n)
		wantBeside(t, seen, plus(short(r, int64(n)), ofInt(full(r, 1+r.Intn(30)))), n)
	}
	seen.least(t, 100, "fits", "Den above n")
}

func TestBesideExamples(t *testing.T) { // P23.3
	x, e := ford.Next(of(1, 2), 4)
	want(t, "Next of 1/2 by 4", x, e, of(2, 3))
	x, e = ford.Last(of(1, 2), 4)
	want(t, "Last of 1/2 by 4", x, e, of(1, 3))
	x, e = ford.Next(of(1, 2), 1)
	wantNone(t, "Next of 1/2 by 1", x, e, api.ErrArg)
	x, e = ford.Next(of(0, 1), 3)
	want(t, "Next of 0 by 3", x, e, of(1, 3))
	x, e = ford.Next(of(1, 1), 1)
	want(t, "Next of 1 by 1", x, e, of(2, 1))
	x, e = ford.Last(of(0, 1), api.MaxFord)
	want(t, "Last of 0 by the greatest n", x, e, of(-1, api.MaxFord))
	x, e = ford.Next(of(1, api.MaxFord), api.MaxFord)
	want(t, "Next of the least one", x, e, of(1, api.MaxFord-1))
	x, e = ford.Last(of(1, api.MaxFord), api.MaxFord)
	want(t, "Last of the least one", x, e, of(0, 1))
	x, e = ford.Last(of(-2, 3), 3)
	want(t, "Last of -2/3 by 3", x, e, of(-1, 1))
}

// With a great n: the one that is a neighbour, on the right side, and has the
// greatest Den of those, is the nearest one.
func TestBesideFarOn(t *testing.T) { // P23.3
	r := rand.New(rand.NewSource(2331))
	for k := range 3000 {
		n := api.MaxFord - r.Intn(2)*r.Intn(api.MaxFord)
		x := plus(short(r, int64(n)), ofInt(new(big.Int).Rand(r, twos(uint(r.Intn(200))))))
		if k%10 == 0 {
			x = rat(int64(r.Intn(3*n)), int64(n))
		}
		next, e := ford.Next(fraction(x), n)
		wantFar(t, next, e, x, n, 1)
		last, e := ford.Last(fraction(x), n)
		wantFar(t, last, e, x, n, -1)
	}
}

func wantFar(t *testing.T, got api.Frac, e api.Errno, x *big.Rat, n int, side int64) {
	t.Helper()
	if e != api.OK {
		t.Fatal(e)
	}
	y := ratOf(got)
	den := y.Denom().Int64()
	if fraction(y) != got || cross(y, x).Cmp(big.NewInt(side)) != 0 || den > int64(n) || den+x.Denom().Int64() <= int64(n) {
		t.Fatalf("%s is beside %s by %d", brief(got), brief(fraction(x)), n)
	}
}

func ratOf(x api.Frac) *big.Rat {
	y := ratio(new(big.Int).SetBytes([]byte(x.Num.Mag)), new(big.Int).SetBytes([]byte(x.Den.Mag)))
	if x.Num.Neg {
		return opposite(y)
	}
	return y
}

// What is answered is just as long as may be, or one byte longer.
func TestBesideAtTheBound(t *testing.T) { // P23.3
	seen := tally{}
	for _, n := range []int{1, 2, 3, 5, 7, 100, 257} {
		for by := int64(-3); by <= 3; by++ {
			for q := int64(1); q <= min(int64(n), 9); q++ {
				// The answers of these are near the bound, or about so many times past it.
				for _, num := range []*big.Int{more(shared(top(), int64(n)), by), more(top(), -by-3), more(shared(timesInt(top(), big.NewInt(q)), int64(n)), by)} {
					x := ratio(num, big.NewInt(q))
					if upTo(x) {
						wantBeside(t, seen, x, n)
						wantBeside(t, seen, opposite(x), n)
					}
				}
			}
		}
	}
	seen.least(t, 50, "fits", "too big")
	x, e := ford.Next(fraction(ofInt(top())), 1)
	wantNone(t, "Next of the greatest one", x, e, api.ErrBig)
	x, e = ford.Last(fraction(ofInt(top())), 1)
	want(t, "Last of the greatest one", x, e, fraction(ofInt(more(top(), -1))))
	x, e = ford.Last(fraction(opposite(ofInt(top()))), 1)
	wantNone(t, "Last of the least one", x, e, api.ErrBig)
	x, e = ford.Next(fraction(ratio(top(), big.NewInt(2))), 2)
	want(t, "Next of half of the greatest one", x, e, fraction(ofInt(shared(past(), 2))))
	x, e = ford.Next(fraction(ofInt(shared(top(), api.MaxFord))), api.MaxFord)
	want(t, "Next by the greatest n", x, e, fraction(ratio(more(timesInt(shared(top(), api.MaxFord), big.NewInt(api.MaxFord)), 1), big.NewInt(api.MaxFord))))
	x, e = ford.Next(fraction(ofInt(more(shared(top(), api.MaxFord), 1))), api.MaxFord)
	wantNone(t, "Next by the greatest n, past the bound", x, e, api.ErrBig)
}

func TestBesideRefuses(t *testing.T) { // P23.3
	refused := func(what string, x api.Frac, n int) {
		t.Helper()
		for name, call := range map[string]func(api.Frac, int) (api.Frac, api.Errno){"Next ": ford.Next, "Last ": ford.Last} {
			y, e := call(x, n)
			wantNone(t, name+what, y, e, api.ErrArg)
		}
	}
	for _, x := range wrongFracs() {
		for _, n := range append(wrongCounts(), 1, 2, 4, api.MaxFord) {
			refused("of what may not be", x, n)
		}
	}
	for _, n := range wrongCounts() {
		for _, x := range []api.Frac{of(0, 1), of(1, 1), of(1, 2), fraction(ofInt(top())), of(1, api.MaxFord)} {
			refused("by a wrong n", x, n)
		}
	}
	for _, n := range []int64{1, 2, 3, 99, api.MaxFord - 1, api.MaxFord} {
		refused("of a Den above n", of(1, n+1), int(n))
		refused("of a Den above n", of(-n, n+1), int(n))
		refused("of a long Den", fraction(inverse(top())), int(n))
		refused("of a long Den", fraction(inverse(more(twos(64), 1))), int(n)) // 1, if it wraps
		refused("of a long Den", fraction(ratio(more(past(), -2), top())), int(n))
		x, e := ford.Next(of(1, n), int(n))
		if e != api.OK || x == (api.Frac{}) {
			t.Errorf("Next of 1/n by n is %v", e)
		}
	}
}
