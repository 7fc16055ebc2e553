package mob_test

import (
	"math/big"
	"math/rand"
	"testing"

	"tracery/api"
	"tracery/mob"
)

func TestCheck(t *testing.T) { // P8.1
	for _, m := range maps() {
		if e := mob.Check(m.mob()); e != api.OK {
			t.Errorf("%s may be: %v", brief(m.mob()), e)
		}
	}
	for _, m := range wrongMaps() {
		if e := mob.Check(m); e != api.ErrArg {
			t.Errorf("%s may not be: %v", brief(m), e)
		}
	}
	quads(func(m chart) {
		one, zero := m.c.same(in(1, 0)), m.c.zero() && m.d.same(in(1, 0))
		wanted := api.ErrArg
		if (one || zero) && !m.det().zero() {
			wanted = api.OK
		}
		if e := mob.Check(m.mob()); e != wanted {
			t.Fatalf("%s: %v, want %v", brief(m.mob()), e, wanted)
		}
	})
}

// What A D is too long to be told, the map is not flat by it.
func TestCheckLong(t *testing.T) { // P8.1
	r := rand.New(rand.NewSource(81))
	a, b, d := fullNum(r, api.MaxWhole), fullNum(r, api.MaxWhole), fullNum(r, api.MaxWhole)
	if e := mob.Check(chart{a, b, in(1, 0), d, true}.mob()); e != api.OK {
		t.Errorf("numbers as long as may be: %v", e)
	}
	// A product of long numbers that is short, and so near it as can be told.
	z := fullNum(r, 200)
	flat := chart{z, in(7, 1), in(1, 0), in(7, 1).over(z), false}
	if e := mob.Check(flat.mob()); e != api.ErrArg || !flat.fits() {
		t.Errorf("a flat map of long numbers: %v", e)
	}
	flat.b = flat.b.plus(real(new(big.Rat).SetFrac(big.NewInt(1), twos(8*api.MaxWhole-8))))
	if e := mob.Check(flat.mob()); e != api.OK {
		t.Errorf("one that is just not flat: %v", e)
	}
}

func TestOne(t *testing.T) { // P8.1
	want(t, "One", mob.One(), mob.Check(mob.One()), still())
	for _, p := range spots() {
		got, e := mob.At(mob.One(), p.point())
		wantPoint(t, "where One sends a point", got, e, p)
	}
}

func makes(m chart) (api.Mob, api.Errno) {
	return mob.Make(m.a.gauss(), m.b.gauss(), m.c.gauss(), m.d.gauss(), m.turns)
}

func TestMake(t *testing.T) { // P8.1
	quads(func(m chart) {
		got, e := makes(m)
		if m.det().zero() {
			wantRefused(t, "a flat one", got, e, api.ErrFlat)
			return
		}
		want(t, "Make", got, e, m.formed())
		if mob.Check(got) != api.OK {
			t.Fatalf("%s may not be", brief(got))
		}
	})
	r := rand.New(rand.NewSource(82))
	for range 300 {
		m := chart{oddNum(r, 9), oddNum(r, 9), oddNum(r, 9), oddNum(r, 9), r.Intn(2) == 0}
		if !m.det().zero() {
			got, e := makes(m)
			wantChart(t, "Make", got, e, m.formed())
		}
	}
	for _, m := range maps() {
		got, e := makes(m)
		want(t, "Make of a map's own numbers", got, e, m)
	}
}

func TestMakeExamples(t *testing.T) { // P8.1
	got, e := makes(charted(2, 0, 0, 2))
	want(t, "Make(2, 0, 0, 2)", got, e, still())
	got, e = makes(charted(1, 2, 2, 4))
	wantRefused(t, "Make(1, 2, 2, 4)", got, e, api.ErrFlat)
	got, e = makes(charted(0, 2, 2, 4).turned())
	want(t, "Make(0, 2, 2, 4), turned", got, e, charted(0, 1, 1, 2).turned())
	got, e = makes(charted(0, 0, 0, 0))
	wantRefused(t, "Make of noughts", got, e, api.ErrFlat)
}

func TestMakeAtTheBound(t *testing.T) { // P8.1
	most, half := real(ofInt(top())), real(big.NewRat(1, 2))
	edge := real(ofInt(twos(8*api.MaxWhole - 1))) // twice it is too big
	for _, x := range []struct {
		m    chart
		want api.Errno
	}{
		{chart{most, in(0, 0), in(0, 0), in(1, 0), false}, api.OK}, {chart{most, in(0, 0), in(0, 0), half, false}, api.ErrBig},
		{chart{in(1, 0), in(0, 0), in(0, 0), in(1, 0).over(most), false}, api.OK}, {chart{in(1, 0), in(0, 0), in(0, 0), edge, false}, api.OK},
		{chart{half, in(0, 0), in(0, 0), edge, false}, api.ErrBig}, {chart{in(1, 0), edge, half, in(3, 0), true}, api.ErrBig},
		{chart{in(1, 0), in(1, 0), half, edge, true}, api.ErrBig}, {chart{edge, in(1, 0), half, in(0, 0), true}, api.ErrBig},
		{chart{edge, in(1, 0), in(1, 0), in(0, 0), true}, api.OK}, {chart{num{none(), edge.re}, in(1, 0), half, in(0, 0), true}, api.ErrBig},
	} {
		got, e := makes(x.m)
		if e != x.want {
			t.Errorf("Make of %s: %v, want %v", brief(x.m.mob()), e, x.want)
		}
		wantChart(t, "Make at the bound", got, e, x.m.formed())
	}
}

// What is long on the way alone is not refused, and is flat if it is.
func TestMakeLongOnTheWay(t *testing.T) { // P8.1
	r := rand.New(rand.NewSource(83))
	z, w := fullNum(r, 1000), fullNum(r, 1000)
	by := func(n num) chart { return chart{z.times(n), w, z.times(n).times(in(2, 0)), w.times(in(2, 0)), true} }
	got, e := makes(chart{z, z.times(in(2, 0)), z.times(in(3, 0)), z.times(in(0, 5)), false})
	want(t, "four numbers with a long factor", got, e, chart{in(1, 0), in(2, 0), in(3, 0), in(0, 5), false}.formed())
	got, e = makes(by(in(0, 3)))
	wantRefused(t, "four flat long numbers", got, e, api.ErrFlat)
	m := by(in(1, 0))
	m.b = m.b.plus(real(new(big.Rat).SetFrac(big.NewInt(1), w.re.Denom())))
	got, e = makes(m)
	wantRefused(t, "four long numbers that are just not flat", got, e, api.ErrBig)
}

func TestMakeRefusesWrongNumbers(t *testing.T) { // P8.1
	for _, z := range wrongNumbers() {
		for _, y := range []api.Gauss{in(0, 0).gauss(), in(1, 0).gauss(), real(ofInt(top())).gauss(), z} {
			for k := range 4 {
				l := [4]api.Gauss{y, y, y, y} // flat ones, so that ErrArg is ahead
				l[k] = z
				got, e := mob.Make(l[0], l[1], l[2], l[3], k%2 == 0)
				wantRefused(t, "Make of a wrong number", got, e, api.ErrArg)
			}
		}
	}
}

func TestSlideAndStretch(t *testing.T) { // P8.1
	r := rand.New(rand.NewSource(84))
	l := append(shorts(), real(ofInt(top())), fullNum(r, api.MaxWhole))
	for range 50 {
		l = append(l, oddNum(r, 20))
	}
	for _, z := range l {
		got, e := mob.Slide(z.gauss())
		want(t, "Slide", got, e, slide(z))
		got, e = mob.Stretch(z.gauss())
		if z.zero() {
			wantRefused(t, "Stretch(0)", got, e, api.ErrFlat)
			continue
		}
		want(t, "Stretch", got, e, stretch(z))
	}
	for _, z := range wrongNumbers() {
		got, e := mob.Slide(z)
		wantRefused(t, "Slide by a wrong number", got, e, api.ErrArg)
		got, e = mob.Stretch(z)
		wantRefused(t, "Stretch by a wrong number", got, e, api.ErrArg)
	}
}

func wantNumber(t *testing.T, what string, got api.Gauss, e api.Errno, wanted num) {
	t.Helper()
	switch {
	case wanted.fits() && (got != wanted.gauss() || e != api.OK):
		t.Fatalf("%s is %s, %v, want %s", what, briefNum(got), e, briefNum(wanted.gauss()))
	case !wanted.fits() && (got != (api.Gauss{}) || e != api.ErrBig):
		t.Fatalf("%s, too big: %s, %v", what, briefNum(got), e)
	}
}

func TestDetAndTrace(t *testing.T) { // P8.5
	check := func(m chart) {
		t.Helper()
		got, e := mob.Det(m.mob())
		wantNumber(t, "Det of "+brief(m.mob()), got, e, m.det())
		got, e = mob.Trace(m.mob())
		wantNumber(t, "Trace of "+brief(m.mob()), got, e, m.a.plus(m.d))
	}
	check(charted(0, 1, 1, 0)) // -1 and 0
	quads(func(m chart) {
		if !m.det().zero() {
			check(m.formed())
		}
	})
	for _, m := range maps() {
		check(m)
	}
	r := rand.New(rand.NewSource(85))
	for range 200 {
		check(oddChart(r, 12))
	}
	for _, m := range wrongMaps() {
		if got, e := mob.Det(m); got != (api.Gauss{}) || e != api.ErrArg {
			t.Fatalf("Det of a wrong map: %s, %v", briefNum(got), e)
		}
		if got, e := mob.Trace(m); got != (api.Gauss{}) || e != api.ErrArg {
			t.Fatalf("Trace of a wrong map: %s, %v", briefNum(got), e)
		}
	}
}

func TestDetAndTraceAtTheBound(t *testing.T) { // P8.5
	most := real(ofInt(top()))
	for _, x := range []struct {
		m          chart
		det, trace api.Errno
	}{
		{chart{most, in(0, 0), in(0, 0), in(1, 0), false}, api.OK, api.ErrBig}, {chart{most, in(1, 0), in(1, 0), in(-1, 0), false}, api.ErrBig, api.OK},
		{chart{most, in(1, 0), in(1, 0), in(1, 0), true}, api.OK, api.ErrBig}, {chart{most, in(-1, 0), in(1, 0), in(1, 0), true}, api.ErrBig, api.ErrBig},
		{chart{num{none(), most.re}, num{none(), opposite(big.NewRat(1, 1))}, in(1, 0), in(1, 0), true}, api.ErrBig, api.OK},
	} {
		det, e := mob.Det(x.m.mob())
		wantNumber(t, "Det", det, e, x.m.det())
		trace, f := mob.Trace(x.m.mob())
		wantNumber(t, "Trace", trace, f, x.m.a.plus(x.m.d))
		if e != x.det || f != x.trace {
			t.Errorf("%s: %v, %v, want %v, %v", brief(x.m.mob()), e, f, x.det, x.trace)
		}
	}
	// 1 / (p q) is u / p and v / q: A D is too long, and what is left is not.
	p, q := top(), less(top(), 2)
	u, v := new(big.Int), new(big.Int)
	if new(big.Int).GCD(u, v, q, p).Cmp(big.NewInt(1)) != 0 {
		t.Fatal("the two numbers have a divisor")
	}
	m := chart{real(new(big.Rat).SetFrac(big.NewInt(1), p)), real(new(big.Rat).SetFrac(u, p)), in(1, 0), real(new(big.Rat).SetFrac(big.NewInt(1), q)), false}
	got, e := mob.Det(m.mob())
	wantNumber(t, "Det of what is long on the way", got, e, real(new(big.Rat).SetFrac(v, q)))
	if e != api.OK || m.a.times(m.d).fits() {
		t.Errorf("Det of what is long on the way: %v", e)
	}
}
