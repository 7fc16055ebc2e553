package ford_test

import (
	"math/big"
	"math/rand"
	"testing"

	"tracery/api"
	"tracery/ford"
)

// between is the chapter's.
func between(x, y *big.Rat) *big.Rat {
	return ratio(plusInt(x.Num(), y.Num()), plusInt(x.Denom(), y.Denom()))
}

// gap is the chapter's formula.
func gap(x, y *big.Rat) *big.Rat {
	c := ofInt(cross(x, y))
	return minus(times(rat(2, 1), times(c, c)), rat(1, 1))
}

// wantPair wants of two fractions what P23.2 says, in either order.
func wantPair(t *testing.T, seen tally, x, y *big.Rat) {
	t.Helper()
	for range 2 {
		a, b := fraction(x), fraction(y)
		what := " of " + brief(a) + " and " + brief(b)
		ok, e := ford.Near(a, b)
		want(t, "Near"+what, ok, e, neighbours(x, y))
		z, e := ford.Between(a, b)
		wantFrac(t, "Between"+what, z, e, between(x, y))
		z, e = ford.Gap(a, b)
		wantFrac(t, "Gap"+what, z, e, gap(x, y))
		seen.when("neighbours", ok)
		seen.when("no neighbours", !ok)
		seen.when("between fits", upTo(between(x, y)))
		seen.when("between too big", !upTo(between(x, y)))
		seen.when("gap fits", upTo(gap(x, y)))
		seen.when("gap too big", !upTo(gap(x, y)))
		seen.when("short in lowest terms", between(x, y).Denom().Cmp(plusInt(x.Denom(), y.Denom())) < 0)
		x, y = y, x
	}
}

func TestPairs(t *testing.T) { // P23.2
	seen := tally{}
	all := given()
	for k, x := range all {
		wantPair(t, seen, x, x)
		wantPair(t, seen, x, opposite(x))
		for _, y := range twins(x) {
			if upTo(y) {
				wantPair(t, seen, x, y)
			}
		}
		for n := range 12 {
			wantPair(t, seen, x, all[(k*7+n*11)%len(all)])
		}
	}
	for p := int64(-7); p <= 7; p++ {
		for q := int64(1); q <= 6; q++ {
			for r := int64(-7); r <= 7; r++ {
				for s := int64(1); s <= 6; s++ {
					wantPair(t, seen, rat(p, q), rat(r, s))
				}
			}
		}
	}
	seen.least(t, 20, "neighbours", "no neighbours", "between fits", "between too big", "gap fits", "gap too big", "short in lowest terms")
}

func TestPairExamples(t *testing.T) { // P23.2
	ok, e := ford.Near(of(1, 2), of(2, 3))
	want(t, "Near of 1/2 and 2/3", ok, e, true)
	ok, e = ford.Near(of(1, 2), of(3, 4))
	want(t, "Near of 1/2 and 3/4", ok, e, false)
	ok, e = ford.Near(of(0, 1), of(-1, 100))
	want(t, "Near of 0 and -1/100", ok, e, true)
	ok, e = ford.Near(of(-1, 1), of(1, 1))
	want(t, "Near of -1 and 1", ok, e, false)
	x, e := ford.Between(of(1, 2), of(2, 3))
	want(t, "Between of 1/2 and 2/3", x, e, of(3, 5))
	x, e = ford.Between(of(-1, 2), of(1, 2))
	want(t, "Between of -1/2 and 1/2", x, e, of(0, 1))
	x, e = ford.Between(of(1, 2), of(1, 4))
	want(t, "Between of 1/2 and 1/4", x, e, of(1, 3))
	x, e = ford.Gap(of(1, 2), of(3, 4))
	want(t, "Gap of 1/2 and 3/4", x, e, of(7, 1))
	x, e = ford.Gap(of(1, 2), of(1, 2))
	want(t, "Gap of 1/2 and itself", x, e, of(-1, 1))
	x, e = ford.Gap(of(1, 2), of(1, 3))
	want(t, "Gap of neighbours", x, e, of(1, 1))
}

// What is answered is just as long as may be, or longer, or short though the
// numbers on the way are not.
func TestPairsAtTheBound(t *testing.T) { // P23.2
	seen := tally{}
	half := shared(past(), 2)
	for by := int64(-3); by <= 3; by++ {
		n := more(half, by)
		wantPair(t, seen, ofInt(n), ofInt(more(half, -1)))
		wantPair(t, seen, ofInt(n), rat(1, 2))
		wantPair(t, seen, inverse(n), inverse(more(half, -1)))
		wantPair(t, seen, opposite(ofInt(n)), opposite(ofInt(more(half, -1))))
		wantPair(t, seen, ratio(n, big.NewInt(3)), ratio(more(half, 1), big.NewInt(4)))
		// 2 c c - 1 is at the bound where c is next to this root.
		c := rootInt(half)
		wantPair(t, seen, ofInt(more(c, by)), rat(0, 1))
		wantPair(t, seen, inverse(more(c, by)), rat(1, 1))
		wantPair(t, seen, ofInt(more(c, by-5)), rat(-5, 1))
	}
	seen.least(t, 5, "between fits", "between too big", "gap fits", "gap too big")
	wantPair(t, seen, ofInt(top()), ofInt(top()))
	wantPair(t, seen, ofInt(top()), ofInt(more(top(), -2)))
	x, e := ford.Between(fraction(ofInt(top())), fraction(ofInt(more(top(), -2))))
	want(t, "Between of two that are long", x, e, fraction(ofInt(more(top(), -1))))
	long := golden(api.MaxWhole)
	x, e = ford.Gap(fraction(long), fraction(twins(long)[0]))
	want(t, "Gap of neighbours that are long", x, e, of(1, 1))
}

func TestPairsRefuse(t *testing.T) { // P23.2
	r := rand.New(rand.NewSource(2320))
	wrong, all := wrongFracs(), given()
	for _, x := range wrong {
		for _, y := range []api.Frac{of(0, 1), of(1, 2), fraction(ofInt(top())), fraction(all[r.Intn(len(all))]), wrong[r.Intn(len(wrong))], x} {
			for range 2 {
				ok, e := ford.Near(x, y)
				wantNone(t, "Near", ok, e, api.ErrArg)
				z, e := ford.Between(x, y)
				wantNone(t, "Between", z, e, api.ErrArg)
				z, e = ford.Gap(x, y)
				wantNone(t, "Gap", z, e, api.ErrArg)
				x, y = y, x
			}
		}
	}
}
