package hurwitz_test

import (
	"math/big"
	"math/rand"
	"testing"

	"tracery/api"
	"tracery/hurwitz"
)

// two are the answers of Div and Lowest.
type two struct {
	p, q api.Gauss
}

func wantDiv(t *testing.T, seen tally, a, b cell) {
	t.Helper()
	q, rest, e := hurwitz.Div(a.gauss(), b.gauss())
	what := "Div of " + brief(a) + " by " + brief(b)
	if b.zero() {
		wantNone(t, what, two{q, rest}, e, api.ErrZero)
		return
	}
	wantedQ, wantedRest, ties := a.div(b)
	seen.when("too big", !wantedQ.fits() || !wantedRest.fits())
	want(t, what, two{q, rest}, e, two{wantedQ.gauss(), wantedRest.gauss()})
	seen.when("one tie", ties == 1)
	seen.when("two ties", ties == 2)
	seen.when("no rest", wantedRest.zero())
	// The rest's norm is at most half of b's.
	if norm := wantedRest.norm(); norm.Lsh(norm, 1).Cmp(b.norm()) > 0 {
		t.Fatalf("%s: the rest is too great", what)
	}
}

func TestDiv(t *testing.T) { // P24.2
	seen := tally{}
	for re := int64(-6); re <= 6; re++ {
		for im := int64(-6); im <= 6; im++ {
			for n := range int64(49) {
				wantDiv(t, seen, is(re, im), is(n%7-3, n/7-3))
			}
		}
	}
	seen.least(t, 20, "one tie", "two ties", "no rest")
	all := wholes()
	for _, a := range all {
		for _, b := range all {
			wantDiv(t, seen, a, b)
		}
	}
	r := rand.New(rand.NewSource(2420))
	for n := range 1500 {
		a, b := someCell(r, 1+n%90), someCell(r, 1+n%70)
		wantDiv(t, seen, a, b)
		wantDiv(t, seen, a.times(b), b)
		// Midway in one part, and in both.
		wantDiv(t, seen, a.times(b), b.times(is(2, 0)))
		wantDiv(t, seen, a.times(b), b.times(is(1, 1)))
	}
	seen.least(t, 500, "one tie", "two ties", "no rest")
	// No quotient and no rest of numbers that may be is too big.
	seen.never(t, "too big")
}

// Where quotient and rest are as great as may be.
func TestDivAtTheBound(t *testing.T) { // P24.2
	seen := tally{}
	long := cell{top(), top()}
	for k := range 4 {
		for n := range 4 {
			for _, a := range []cell{long, {top(), big.NewInt(0)}, {top(), big.NewInt(1)}, {top(), more(top(), -1)}, {more(top(), -1), more(top(), -1)}} {
				for _, b := range []cell{is(1, 0), is(1, 1), is(2, 0), is(2, 1), a, long, {top(), big.NewInt(0)}} {
					wantDiv(t, seen, a.turned(k), b.turned(n))
					wantDiv(t, seen, b.turned(k), a.turned(n))
				}
			}
		}
	}
	seen.never(t, "too big")
	q, rest, e := hurwitz.Div(long.gauss(), is(1, 1).gauss())
	want(t, "the greatest quotient", two{q, rest}, e, two{cell{top(), big.NewInt(0)}.gauss(), is(0, 0).gauss()})
	i := cell{big.NewInt(0), top()}
	q, rest, e = hurwitz.Div(i.gauss(), long.gauss())
	want(t, "the greatest rest", two{q, rest}, e, two{is(0, 0).gauss(), i.gauss()})
}

func TestDivExamples(t *testing.T) { // P24.2
	for _, c := range []struct{ a, b, q, rest cell }{
		{is(5, 3), is(2, 0), is(2, 2), is(1, -1)}, {is(0, 0), is(3, 4), is(0, 0), is(0, 0)}, {is(3, 4), is(3, 4), is(1, 0), is(0, 0)}, {is(3, 4), is(0, 1), is(4, -3), is(0, 0)}, {is(3, 4), is(-1, 0), is(-3, -4), is(0, 0)},
		{is(1, 0), is(2, 0), is(0, 0), is(1, 0)}, {is(3, 0), is(2, 0), is(2, 0), is(-1, 0)}, {is(-1, 3), is(2, 0), is(0, 2), is(-1, -1)}, {is(1, 1), is(100, 0), is(0, 0), is(1, 1)}, {is(7, 2), is(3, 0), is(2, 1), is(1, -1)},
	} {
		q, rest, e := hurwitz.Div(c.a.gauss(), c.b.gauss())
		want(t, "Div of "+brief(c.a)+" by "+brief(c.b), two{q, rest}, e, two{c.q.gauss(), c.rest.gauss()})
	}
}

func TestDivRefuses(t *testing.T) { // P24.2
	// A number that is not whole stands ahead of a division by 0.
	for _, z := range notWhole() {
		for _, w := range []api.Gauss{is(0, 0).gauss(), is(1, 0).gauss(), is(-3, 5).gauss(), z} {
			q, rest, e := hurwitz.Div(z, w)
			wantNone(t, "Div of what is not whole", two{q, rest}, e, api.ErrArg)
			q, rest, e = hurwitz.Div(w, z)
			wantNone(t, "Div by what is not whole", two{q, rest}, e, api.ErrArg)
		}
	}
	for _, z := range wholes() {
		q, rest, e := hurwitz.Div(z.gauss(), is(0, 0).gauss())
		wantNone(t, "Div by 0", two{q, rest}, e, api.ErrZero)
	}
}
