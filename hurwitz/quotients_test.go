package hurwitz_test

import (
	"math/big"
	"math/rand"
	"slices"
	"testing"

	"tracery/api"
	"tracery/hurwitz"
)

// wantQuotients wants Quotients and Convergents to tell these.
func wantQuotients(t *testing.T, seen tally, z num, quotients []cell) {
	t.Helper()
	wantList(t, "Quotients of "+brief(z), slices.Collect(hurwitz.Quotients(z.gauss())), gausses(quotients))
	all := convergents(quotients)
	wanted := toTell(all)
	wantList(t, "Convergents of "+brief(z), slices.Collect(hurwitz.Convergents(z.gauss())), wanted)
	seen.when("many", len(all) > api.MaxList)
	for _, x := range all {
		seen.when("a quotient is too big", !x.a.fits())
	}
	if len(wanted) == len(all) {
		seen.when("all", true)
		return
	}
	end := all[len(wanted)]
	seen.when("p alone ends it", !end.p.fits() && end.q.fits())
	seen.when("q alone ends it", end.p.fits() && !end.q.fits())
	seen.when("both end it", !end.p.fits() && !end.q.fits())
	seen.when("ends early", len(wanted) < len(all)-1)
	seen.when("a later one fits", slices.ContainsFunc(all[len(wanted):], triple.fits))
}

func TestQuotients(t *testing.T) { // P24.4
	seen := tally{}
	for d := int64(1); d <= 7; d++ {
		for a := -d; a <= d; a++ {
			for b := -d; b <= d; b++ {
				for _, c := range []int64{d, d + 1, 2} {
					z := frac(a, d, b, c)
					wantQuotients(t, seen, z, z.quotients())
				}
			}
		}
	}
	for _, z := range nums() {
		wantQuotients(t, seen, z, z.quotients())
		wantQuotients(t, seen, z.opposite(), z.opposite().quotients())
	}
	r := rand.New(rand.NewSource(2440))
	for n := range 200 {
		z := someNum(r, 1+n/3)
		wantQuotients(t, seen, z, z.quotients())
	}
	seen.never(t, "a quotient is too big")
}

func TestQuotientsLong(t *testing.T) { // P24.4
	seen := tally{}
	for _, z := range longs() {
		wantQuotients(t, seen, z, longQuotients(z))
	}
	m, less := top(), more(top(), -1)
	for _, z := range []num{
		{inverse(m), inverse(less)}, {inverse(m), opposite(inverse(more(m, -2)))}, {ratio(less, m), ratio(more(less, -1), less)},
		{ratio(m, big.NewInt(7)), rat(1, 11)}, {rat(1, 11), ratio(m, big.NewInt(7))}, {ratio(m, big.NewInt(2)), rat(1, 2)}, {ratio(m, big.NewInt(2)), rat(1, 4)},
		{ratio(shared(less, 2), m), rat(-1, 2)}, {ratio(shared(past(), 2), m), rat(1, 2)}, {ratio(shared(less, 2), m), opposite(ratio(shared(less, 2), m))},
		{ofInt(m), rat(1, 3)}, {rat(1, 3), ofInt(negInt(m))}, {ratio(m, twos(4000)), ratio(big.NewInt(3), twos(4001))},
	} {
		wantQuotients(t, seen, z, longQuotients(z))
	}
	// Of (n - 1/3) (1 + i) the second p is 1 - 4 n, the third one (3 n - 1) (1 + i),
	// but for units.
	for _, by := range []int64{-9, -1, 0} {
		x := minus(ofInt(more(shared(top(), 3), by)), rat(1, 3))
		wantQuotients(t, seen, num{x, x}, num{x, x}.quotients())
		wantQuotients(t, seen, num{x, opposite(x)}, num{x, opposite(x)}.quotients())
	}
	seen.least(t, 2, "many", "all", "p alone ends it", "q alone ends it", "both end it", "ends early", "a later one fits")
	seen.never(t, "a quotient is too big")
}

func TestQuotientsExamples(t *testing.T) { // P24.4
	for _, c := range []struct {
		z num
		l []cell
	}{
		{frac(7, 3, 0, 1), []cell{is(2, 0), is(3, 0)}}, {frac(1, 2, 1, 2), []cell{is(0, 0), is(1, -1)}}, {frac(3, 1, -4, 1), []cell{is(3, -4)}}, {frac(0, 1, 0, 1), []cell{is(0, 0)}}, {frac(1, 2, 0, 1), []cell{is(0, 0), is(2, 0)}}, {frac(3, 2, 0, 1), []cell{is(2, 0), is(-2, 0)}},
		{frac(0, 1, -1, 2), []cell{is(0, 0), is(0, 2)}}, {frac(8, 3, 0, 1), []cell{is(3, 0), is(-3, 0)}}, {frac(5, 8, 0, 1), []cell{is(1, 0), is(-3, 0), is(3, 0)}},
		{num{inverse(top()), rat(0, 1)}, []cell{is(0, 0), {top(), big.NewInt(0)}}},
	} {
		wantList(t, "Quotients of "+brief(c.z), slices.Collect(hurwitz.Quotients(c.z.gauss())), gausses(c.l))
	}
	l := slices.Collect(hurwitz.Convergents(frac(5, 8, 0, 1).gauss()))
	wantList(t, "Convergents of 5/8", l, []api.Converge{{A: is(1, 0).gauss(), P: is(1, 0).gauss(), Q: is(1, 0).gauss()}, {A: is(-3, 0).gauss(), P: is(-2, 0).gauss(), Q: is(-3, 0).gauss()}, {A: is(3, 0).gauss(), P: is(-5, 0).gauss(), Q: is(-8, 0).gauss()}})
	l = slices.Collect(hurwitz.Convergents(frac(1, 2, 1, 2).gauss()))
	wantList(t, "Convergents of 1/2 + 1/2 i", l, []api.Converge{{A: is(0, 0).gauss(), P: is(0, 0).gauss(), Q: is(1, 0).gauss()}, {A: is(1, -1).gauss(), P: is(1, 0).gauss(), Q: is(1, -1).gauss()}})
	l = slices.Collect(hurwitz.Convergents(is(3, -4).gauss()))
	wantList(t, "Convergents of 3 - 4 i", l, []api.Converge{{A: is(3, -4).gauss(), P: is(3, -4).gauss(), Q: is(1, 0).gauss()}})
}

func TestQuotientsAreLeft(t *testing.T) { // P24.4
	r := rand.New(rand.NewSource(2441))
	for _, z := range []num{frac(7, 3, 0, 1), frac(1, 2, 1, 2), frac(5, 1, 0, 1), fullCell(r, 6).over(fullCell(r, 6)), fullCell(r, 40).over(fullCell(r, 40)), {inverse(top()), inverse(more(top(), -1))}} {
		l := z.quotients()
		wantIterator(t, "Quotients", hurwitz.Quotients(z.gauss()), gausses(l))
		wantIterator(t, "Convergents", hurwitz.Convergents(z.gauss()), toTell(convergents(l)))
	}
	// Left at once, of what has thousands.
	z := longs()[3]
	calls := 0
	hurwitz.Quotients(z.gauss())(func(a api.Gauss) bool {
		calls++
		return false
	})
	hurwitz.Convergents(z.gauss())(func(api.Converge) bool {
		calls++
		return false
	})
	if calls != 2 {
		t.Errorf("what is left at once goes on: %d calls", calls)
	}
}

func TestQuotientsRefuse(t *testing.T) { // P24.4
	for _, z := range wrong() {
		wantNothing(t, "Quotients of what may not be", hurwitz.Quotients(z))
		wantNothing(t, "Convergents of what may not be", hurwitz.Convergents(z))
	}
}

// lowestOf goes by the words: z is one number over another, both are divided by
// their Gcd, and brought to where the second one is in its first place.
func lowestOf(t *testing.T, z num) (p, q cell) {
	t.Helper()
	a, b := pairOf(z)
	d, _, _, _ := combined(a, b)
	p, restOfP, _ := a.div(d)
	q, restOfQ, _ := b.div(d)
	if !restOfP.zero() || !restOfQ.zero() {
		t.Fatalf("the Gcd of %s and %s divides just one", brief(a), brief(b))
	}
	k := q.turns()
	return p.turned(k), q.turned(k)
}

func wantLowest(t *testing.T, seen tally, z num) {
	t.Helper()
	p, q := lowestOf(t, z)
	over, under, e := hurwitz.Lowest(z.gauss())
	what := "Lowest of " + brief(z)
	seen.when("p alone", !p.fits() && q.fits())
	seen.when("q alone", p.fits() && !q.fits())
	seen.when("both", !p.fits() && !q.fits())
	seen.when("unlike Dens", z.re.Denom().Cmp(z.im.Denom()) != 0)
	if !p.fits() || !q.fits() {
		wantNone(t, what, two{over, under}, e, api.ErrBig)
		return
	}
	seen.when("told", true)
	want(t, what, two{over, under}, e, two{p.gauss(), q.gauss()})
}

func TestLowest(t *testing.T) { // P24.5
	seen := tally{}
	for d := int64(1); d <= 7; d++ {
		for a := -d; a <= d; a++ {
			for b := -d; b <= d; b++ {
				for _, c := range []int64{d, d + 1, 5} {
					wantLowest(t, seen, frac(a, d, b, c))
				}
			}
		}
	}
	for _, z := range nums() {
		wantLowest(t, seen, z)
		wantLowest(t, seen, z.opposite())
	}
	r := rand.New(rand.NewSource(2442))
	for n := range 300 {
		wantLowest(t, seen, someNum(r, 1+n/3))
	}
	seen.least(t, 100, "unlike Dens")
	for _, z := range longs() {
		wantLowest(t, seen, z)
	}
	m := top()
	for _, z := range []num{
		{inverse(m), inverse(more(m, -1))}, {ratio(m, big.NewInt(7)), rat(1, 11)}, {ratio(m, big.NewInt(2)), rat(1, 2)}, {rat(1, 11), ratio(m, big.NewInt(7))}, {inverse(m), rat(1, 2)}, {inverse(m), ofInt(m)}, {ratio(more(m, -1), m), ratio(m, more(m, -1))},
	} {
		wantLowest(t, seen, z)
		wantLowest(t, seen, z.opposite())
	}
	seen.least(t, 2, "told", "p alone", "q alone", "both")
}

// Where p or q has just as many bytes as may be, and where it has one more.
func TestLowestAtTheBound(t *testing.T) { // P24.5
	// 1/d + i/2 is (2 + d i) over 2 d, both divided by 1 + i if d is even.
	half, quarter := shared(past(), 2), shared(past(), 4)
	for _, c := range []struct {
		z num
		e api.Errno
	}{
		{num{inverse(more(half, -1)), rat(1, 2)}, api.OK}, {num{inverse(more(half, 1)), rat(1, 2)}, api.ErrBig},
		{num{ofInt(more(quarter, -1)), rat(1, 4)}, api.OK}, {num{ofInt(quarter), rat(1, 4)}, api.ErrBig}, {num{rat(1, 4), ofInt(negInt(quarter))}, api.ErrBig},
	} {
		p, q, e := hurwitz.Lowest(c.z.gauss())
		if c.e != api.OK {
			wantNone(t, "Lowest past the bound", two{p, q}, e, c.e)
		}
		wantLowest(t, tally{}, c.z)
	}
}

func TestLowestExamples(t *testing.T) { // P24.5
	for _, c := range []struct {
		z    num
		p, q cell
	}{
		{frac(1, 2, 1, 2), is(0, 1), is(1, 1)}, {frac(0, 1, 0, 1), is(0, 0), is(1, 0)}, {frac(-3, 1, 4, 1), is(-3, 4), is(1, 0)}, {frac(-7, 3, 0, 1), is(-7, 0), is(3, 0)}, {frac(1, 2, 0, 1), is(1, 0), is(2, 0)}, {frac(0, 1, 1, 2), is(0, 1), is(2, 0)}, {frac(1, 2, 1, 3), is(3, 2), is(6, 0)}, {frac(2, 5, -1, 5), is(1, 0), is(2, 1)}, {frac(2, 5, 1, 5), is(0, 1), is(1, 2)},
	} {
		p, q, e := hurwitz.Lowest(c.z.gauss())
		want(t, "Lowest of "+brief(c.z), two{p, q}, e, two{c.p.gauss(), c.q.gauss()})
	}
}

func TestLowestRefuses(t *testing.T) { // P24.5
	for _, z := range wrong() {
		p, q, e := hurwitz.Lowest(z)
		wantNone(t, "Lowest of what may not be", two{p, q}, e, api.ErrArg)
	}
}
