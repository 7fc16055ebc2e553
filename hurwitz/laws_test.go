package hurwitz_test

import (
	"math/rand"
	"slices"
	"testing"

	"tracery/api"
	numbers "tracery/frac"
	"tracery/gauss"
	"tracery/hurwitz"
)

// must answers what is not refused.
func must[T any](t *testing.T, x T, e api.Errno) T {
	t.Helper()
	if e != api.OK {
		t.Fatalf("refused: %v", e)
	}
	return x
}

// normIs holds the norm of z against that of w, times by.
func normIs(t *testing.T, z, w cell, by int64) int {
	t.Helper()
	return timesInt(z.norm(), is(by, 0).re).Cmp(w.norm())
}

func cellOf(z api.Gauss) cell {
	re, im := ratOf(z.Re), ratOf(z.Im)
	return cell{re.Num(), im.Num()}
}

// pairs are whole numbers two by two, some with common divisors.
func pairs(count int) [][2]cell {
	r := rand.New(rand.NewSource(2480))
	var l [][2]cell
	for n := range count {
		a, b, c := someCell(r, 1+n%50), someCell(r, 1+n%40), someCell(r, 1+n%30)
		l = append(l, [2]cell{a, b}, [2]cell{a.times(c), b.times(c)}, [2]cell{is(r.Int63n(40)-20, r.Int63n(40)-20), is(r.Int63n(40)-20, r.Int63n(40)-20)})
	}
	return l
}

func TestRestsAreSmall(t *testing.T) { // P24.6
	for _, c := range pairs(300) {
		if c[1].zero() {
			continue
		}
		q, rest, e := hurwitz.Div(c[0].gauss(), c[1].gauss())
		must(t, q, e)
		if normIs(t, cellOf(rest), c[1], 2) > 0 {
			t.Fatalf("the rest of %s by %s is %s", brief(c[0]), brief(c[1]), brief(rest))
		}
		product, e := gauss.Mul(q, c[1].gauss())
		must(t, product, e)
		sum, e := gauss.Add(product, rest)
		want(t, "q times b, and the rest", sum, e, c[0].gauss())
	}
}

func TestQuotientsEnd(t *testing.T) { // P24.6, P0.10
	for _, z := range append(nums(), longs()...) {
		first := true
		for a := range hurwitz.Quotients(z.gauss()) {
			if !first && normIs(t, is(1, 1), cellOf(a), 1) > 0 {
				t.Fatalf("%s has the quotient %s", brief(z), brief(a))
			}
			if !hurwitz.Whole(a) {
				t.Fatalf("%s has the quotient %s, which is not whole", brief(z), brief(a))
			}
			first = false
		}
		if first {
			t.Fatalf("%s has no quotient", brief(z))
		}
	}
}

// The last convergent is the number; what two of them make is 1 or -1 by turns.
func TestConvergentsMeet(t *testing.T) { // P24.6, P0.10
	seen := tally{}
	all := nums()
	r := rand.New(rand.NewSource(2481))
	for n := range 60 {
		all = append(all, someNum(r, 1+n))
	}
	for _, z := range all {
		last := api.Converge{P: is(1, 0).gauss(), Q: is(0, 0).gauss()}
		count, turn := 0, int64(-1)
		for c := range hurwitz.Convergents(z.gauss()) {
			made := cellOf(c.P).times(cellOf(last.Q)).minus(cellOf(last.P).times(cellOf(c.Q)))
			if !made.same(is(turn, 0)) {
				t.Fatalf("two convergents of %s make %s", brief(z), brief(made))
			}
			last, turn = c, -turn
			count++
		}
		if count < len(slices.Collect(hurwitz.Quotients(z.gauss()))) {
			seen.when("ends early", true)
			continue
		}
		seen.when("told to the end", true)
		w, e := gauss.Div(last.P, last.Q)
		want(t, "the last convergent", w, e, z.gauss())
		// It is the lowest one, but for a unit.
		p, q, e := hurwitz.Lowest(z.gauss())
		first, k, f := hurwitz.First(last.Q)
		want(t, "q of Lowest", q, e, must(t, first, f))
		want(t, "p of Lowest", p, e, cellOf(last.P).turned(k).gauss())
	}
	seen.least(t, 100, "told to the end")
	seen.least(t, 1, "ends early")
}

func divides(t *testing.T, d, a api.Gauss) bool {
	t.Helper()
	if gauss.Zero(d) {
		return gauss.Zero(a)
	}
	_, rest, e := hurwitz.Div(a, d)
	return gauss.Zero(must(t, rest, e))
}

func TestGcdDivides(t *testing.T) { // P24.6
	r := rand.New(rand.NewSource(2482))
	for n, c := range pairs(200) {
		a, b := c[0].gauss(), c[1].gauss()
		d, e := hurwitz.Gcd(a, b)
		must(t, d, e)
		if !divides(t, d, a) || !divides(t, d, b) {
			t.Fatalf("%s divides not both of %s and %s", brief(d), brief(a), brief(b))
		}
		first, k, e := hurwitz.First(d)
		want(t, "First of a Gcd", first, e, d)
		want(t, "the power of i", k, e, 0)
		other, e := hurwitz.Gcd(b, a)
		want(t, "Gcd in the other order", other, e, d)
		other, e = hurwitz.Gcd(c[0].turned(n%4).gauss(), c[1].turned(n/4%4).gauss())
		want(t, "Gcd times units", other, e, d)
		// What divides both divides it.
		by := someCell(r, 1+n%20)
		other, e = hurwitz.Gcd(c[0].times(by).gauss(), c[1].times(by).gauss())
		if !divides(t, by.gauss(), must(t, other, e)) {
			t.Fatalf("%s does not divide %s", brief(by), brief(other))
		}
		wanted, _, e := hurwitz.First(cellOf(d).times(by).gauss())
		want(t, "Gcd of two numbers, both times one", other, e, wanted)
	}
}

func TestCombineMakesTheGcd(t *testing.T) { // P24.2
	for _, c := range pairs(200) {
		d, u, v, e := hurwitz.Combine(c[0].gauss(), c[1].gauss())
		wanted, f := hurwitz.Gcd(c[0].gauss(), c[1].gauss())
		want(t, "Combine's Gcd", d, e, must(t, wanted, f))
		one, e := gauss.Mul(u, c[0].gauss())
		must(t, one, e)
		two, e := gauss.Mul(v, c[1].gauss())
		must(t, two, e)
		sum, e := gauss.Add(one, two)
		want(t, "u a + v b", sum, e, d)
	}
}

func TestLowestIsLowest(t *testing.T) { // P24.5
	for _, z := range nums() {
		p, q, e := hurwitz.Lowest(z.gauss())
		if e == api.ErrBig {
			continue
		}
		w, f := gauss.Div(must(t, p, e), q)
		want(t, "p / q", w, f, z.gauss())
		d, e := hurwitz.Gcd(p, q)
		want(t, "the Gcd of p and q", d, e, is(1, 0).gauss())
		first, k, e := hurwitz.First(q)
		want(t, "First of q", first, e, q)
		want(t, "the power of i", k, e, 0)
	}
}

func TestNearestIsNear(t *testing.T) { // P24.1
	half := rat(1, 2)
	for _, z := range append(nums(), longs()...) {
		n, e := hurwitz.Nearest(z.gauss())
		off := z.minus(cellOf(must(t, n, e)).num())
		for _, x := range []api.Frac{fraction(off.re), fraction(off.im)} {
			if x := ratOf(x); x.Abs(x).Cmp(half) > 0 {
				t.Fatalf("Nearest of %s is %s", brief(z), brief(n))
			}
		}
		re, e := numbers.Nearest(fraction(z.re))
		want(t, "the real part", n.Re.Num, e, re)
		im, e := numbers.Nearest(fraction(z.im))
		want(t, "the imaginary part", n.Im.Num, e, im)
		again, e := hurwitz.Nearest(n)
		want(t, "Nearest of what is whole", again, e, n)
	}
}
