package hurwitz_test

import (
	"math/big"
	"math/rand"
	"testing"

	"tracery/api"
	"tracery/hurwitz"
)

// three are the answers of Combine.
type three struct {
	d, u, v api.Gauss
}

// wantGcd wants Gcd and Combine to answer what the chapter's words do.
func wantGcd(t *testing.T, seen tally, a, b cell) {
	t.Helper()
	what := " of " + brief(a) + " and " + brief(b)
	d, u, v, steps := combined(a, b)
	seen.when("the Gcd is too big", !d.fits())
	got, e := hurwitz.Gcd(a.gauss(), b.gauss())
	want(t, "Gcd"+what, got, e, d.gauss())
	var all three
	all.d, all.u, all.v, e = hurwitz.Combine(a.gauss(), b.gauss())
	seen.when("u alone is too big", !u.fits() && v.fits())
	seen.when("v alone is too big", u.fits() && !v.fits())
	seen.when("both are too big", !u.fits() && !v.fits())
	seen.when("a unit", d.same(is(1, 0)))
	seen.when("no unit", d.norm().Cmp(big.NewInt(1)) > 0)
	seen.when("many divisions", steps > 1000)
	if !u.fits() || !v.fits() {
		wantNone(t, "Combine"+what, all, e, api.ErrBig)
		return
	}
	want(t, "Combine"+what, all, e, three{d.gauss(), u.gauss(), v.gauss()})
}

func TestGcd(t *testing.T) { // P24.2
	seen := tally{}
	for re := int64(-5); re <= 5; re++ {
		for im := int64(-5); im <= 5; im++ {
			for n := range int64(81) {
				wantGcd(t, seen, is(re, im), is(n%9-4, n/9-4))
			}
		}
	}
	r := rand.New(rand.NewSource(2430))
	for n := range 600 {
		a, b, c := someCell(r, 1+n%40), someCell(r, 1+n%30), someCell(r, 1+n%20)
		wantGcd(t, seen, a, b)
		wantGcd(t, seen, a.times(c), b.times(c))
		wantGcd(t, seen, a, a)
		wantGcd(t, seen, a.times(c), a)
		wantGcd(t, seen, a, a.times(c).turned(n%4))
	}
	seen.least(t, 100, "a unit", "no unit")
	seen.never(t, "the Gcd is too big")
}

func TestGcdLong(t *testing.T) { // P24.2
	seen := tally{}
	r := rand.New(rand.NewSource(2431))
	count := api.MaxWhole
	zero, small, top1 := is(0, 0), is(3, -5), cell{top(), top()}
	for _, z := range wholes() {
		if len(z.re.Bytes()) < 100 || !z.atFirst() {
			continue
		}
		for _, w := range []cell{zero, small, z, z.turn(), is(0, 1), top1} {
			wantGcd(t, seen, z, w)
			wantGcd(t, seen, w, z)
		}
	}
	common := fullCell(r, 400)
	for _, c := range []struct{ a, b cell }{
		{fullCell(r, count), fullCell(r, count)}, {fullCell(r, count), fullCell(r, 100)}, {fullCell(r, 100), fullCell(r, count)}, {common.times(fullCell(r, 500)), common.times(fullCell(r, 600))},
		{cell{full(r, count), big.NewInt(0)}, cell{full(r, count), big.NewInt(0)}}, {cell{full(r, count), big.NewInt(0)}, cell{big.NewInt(0), full(r, count)}},
	} {
		wantGcd(t, seen, c.a, c.b)
		wantGcd(t, seen, c.b.turn(), c.a)
	}
	seen.least(t, 4, "many divisions", "a unit", "no unit")
	seen.never(t, "the Gcd is too big")
}

func TestGcdExamples(t *testing.T) { // P24.2
	for _, c := range []struct{ a, b, d cell }{
		{is(6, 0), is(4, 2), is(2, 0)}, {is(0, 0), is(0, -1), is(1, 0)}, {is(0, 0), is(0, 0), is(0, 0)}, {is(3, 4), is(5, 0), is(2, 1)}, {is(5, 0), is(3, 4), is(2, 1)}, {is(-3, 1), is(0, 0), is(1, 3)}, {is(0, 0), is(-3, 1), is(1, 3)}, {is(2, 0), is(1, 1), is(1, 1)}, {is(7, 0), is(5, 0), is(1, 0)},
	} {
		d, e := hurwitz.Gcd(c.a.gauss(), c.b.gauss())
		want(t, "Gcd of "+brief(c.a)+" and "+brief(c.b), d, e, c.d.gauss())
	}
	for _, c := range []struct{ a, b, d, u, v cell }{
		{is(0, 0), is(0, 0), is(0, 0), is(1, 0), is(0, 0)}, {is(0, 0), is(0, -1), is(1, 0), is(0, 0), is(0, 1)}, {is(-3, 1), is(0, 0), is(1, 3), is(0, -1), is(0, 0)}, {is(3, 0), is(3, 0), is(3, 0), is(0, 0), is(1, 0)}, {is(7, 0), is(5, 0), is(1, 0), is(-2, 0), is(3, 0)}, {is(6, 0), is(4, 0), is(2, 0), is(-1, 0), is(2, 0)},
	} {
		d, u, v, e := hurwitz.Combine(c.a.gauss(), c.b.gauss())
		want(t, "Combine of "+brief(c.a)+" and "+brief(c.b), three{d, u, v}, e, three{c.d.gauss(), c.u.gauss(), c.v.gauss()})
	}
}

// The last rest stands in each of the four places.
func TestGcdInEachPlace(t *testing.T) { // P24.2
	places := tally{}
	for k := range 4 {
		for n := range 4 {
			a, b := is(7, 9).times(is(2, 1)).turned(k), is(4, -3).times(is(2, 1)).turned(n)
			x, y := a, b
			for !y.zero() {
				_, rest, _ := x.div(y)
				x, y = y, rest
			}
			places[brief(x.turns())]++
			wantGcd(t, tally{}, a, b)
			d, e := hurwitz.Gcd(a.gauss(), b.gauss())
			want(t, "Gcd times units", d, e, is(2, 1).gauss())
		}
	}
	places.least(t, 1, "0", "1", "2", "3")
}

// wide makes two numbers without a common divisor, whose quotients are these: the
// last ones bring the last rest's row out of bounds, though both may be.
func wide(first cell, x cell) (a, b cell) {
	l := convergents([]cell{first, x, is(-2, 2), is(1, 1)})
	return l[3].p, l[3].q
}

func TestCombineTooBig(t *testing.T) { // P24.2
	seen := tally{}
	quarter := shared(past(), 4)
	for _, y := range []*big.Int{shared(past(), 5), more(quarter, -1), quarter, more(quarter, 1), plusInt(quarter, twos(8000)), shared(top(), 3), more(shared(top(), 3), -2)} {
		for _, first := range []cell{is(0, 0), is(1, 0), is(0, -1), is(1, 1)} {
			a, b := wide(first, cell{y, y})
			if !a.fits() || !b.fits() {
				continue
			}
			for k := range 4 {
				wantGcd(t, seen, a, b.turned(k))
				wantGcd(t, seen, b, a.turned(k))
			}
		}
	}
	seen.least(t, 4, "u alone is too big", "v alone is too big", "both are too big")
	seen.never(t, "the Gcd is too big")
	// Just as long as may be, and one byte more.
	for _, c := range []struct {
		y  *big.Int
		ok bool
	}{{quarter, true}, {more(quarter, 1), false}} {
		a, b := wide(is(0, 0), cell{c.y, c.y})
		d, u, v, e := hurwitz.Combine(a.gauss(), b.gauss())
		if !c.ok {
			wantNone(t, "Combine past the bound", three{d, u, v}, e, api.ErrBig)
			continue
		}
		want(t, "the Gcd at the bound", d, e, is(1, 0).gauss())
		if len(u.Re.Num.Mag) != api.MaxWhole && len(u.Im.Num.Mag) != api.MaxWhole {
			t.Error("u is not as long as may be")
		}
	}
}

func TestGcdRefuses(t *testing.T) { // P24.2
	for _, z := range notWhole() {
		for _, w := range []api.Gauss{is(0, 0).gauss(), is(1, 0).gauss(), is(-3, 5).gauss(), cell{top(), top()}.gauss(), z} {
			for _, c := range [][2]api.Gauss{{z, w}, {w, z}} {
				d, e := hurwitz.Gcd(c[0], c[1])
				wantNone(t, "Gcd of what is not whole", d, e, api.ErrArg)
				var all three
				all.d, all.u, all.v, e = hurwitz.Combine(c[0], c[1])
				wantNone(t, "Combine of what is not whole", all, e, api.ErrArg)
			}
		}
	}
}
