package fixed_test

import (
	"math/rand"
	"testing"

	"tracery/api"
	"tracery/fixed"
)

func wantFactor(t *testing.T, m chart, k num) {
	t.Helper()
	got, e := fixed.Factor(m.mob())
	want(t, "the factor of "+briefMap(m), got, e, k)
}

func TestFactorExamples(t *testing.T) { // P15.6
	for _, x := range []struct {
		m chart
		k num
	}{
		{stretch(in(2, 0)), in(2, 0)}, {slide(in(1, 0)), in(1, 0)}, {stretch(flat(rat(1, 2))), flat(rat(1, 2))}, {stretch(in(0, 1)), in(0, 1)},
		{swap(), in(-1, 0)}, {charted(3, -1, 1, 1), in(1, 0)}, {charted(0, 1, 1, 0), in(-1, 0)}, {slide(in(3, -4)), in(1, 0)},
		{chart{a: in(0, 2), b: in(5, 7), c: in(0, 0), d: in(1, 0)}, in(0, 2)},
		{charted(5, 0, 1, 2), flat(rat(5, 2))}, {charted(2, 0, 1, 5), flat(rat(5, 2))}, // 3 and 0 stay; 0 and -3
		{charted(-1, 0, 1, 2), flat(rat(-2, 1))}, {charted(1, 2, 1, 0), in(-2, 0)}, {charted(0, 2, 1, 1), flat(rat(-2, 1))},
	} {
		wantFactor(t, x.m, x.k)
	}
	for _, m := range []chart{third(), sixth(), charted(0, 2, 1, 0)} {
		got, e := fixed.Factor(m.mob())
		wantNone(t, "the factor of "+briefMap(m), got, e, api.ErrNone)
	}
	for _, m := range []chart{still(), bar(), swap().turned(), stretch(in(2, 0)).turned()} {
		got, e := fixed.Factor(m.mob())
		wantNone(t, "the factor of "+briefMap(m), got, e, api.ErrMoved)
	}
}

func TestFactorAsMade(t *testing.T) { // P15.6
	r := rand.New(rand.NewSource(1560))
	seen := tally{}
	for n := range 800 {
		p, q, k, b := oddSpot(r, 4), oddNum(r, 4), oddNum(r, 3), oddNum(r, 3)
		if n%4 == 0 {
			k = factors()[n/4%len(factors())]
		}
		if b.zero() || k.zero() || k.same(in(1, 0)) || p.same(at(q)) {
			continue
		}
		_, factor := ordered(p, q, k)
		wantFactor(t, spun(p, q, k), factor)
		wantFactor(t, pushed(p, b), in(1, 0))
		if factor.same(k) {
			seen["as made"]++
		} else {
			seen["the other way"]++
		}
	}
	seen.least(t, 100, "as made", "the other way")
}

// The map in the place in which p goes to infinity and q to 0 is z to k z.
func TestFactorIsThatOfTheOtherPlace(t *testing.T) { // P15.6
	count := 0
	for _, m := range grains() {
		l, wrong := m.staying(t)
		if wrong != api.OK || len(l) == 1 {
			continue
		}
		count++
		k := numOf(must[api.Gauss](t)(fixed.Factor(m.mob())))
		to := slide(l[1].z.neg()) // l[0] is infinity
		if !l[0].inf {
			to = chart{a: in(1, 0), b: l[1].z.neg(), c: in(1, 0), d: l[0].z.neg()}
		}
		if there := m.brought(to); there.mob() != stretch(k).mob() {
			t.Fatalf("%s is %s there, not times %s", briefMap(m), briefMap(there), brief(k.gauss()))
		}
	}
	if count < 200 {
		t.Errorf("just %d maps leave two points", count)
	}
}

func TestFactorAtTheBound(t *testing.T) { // P15.6
	most, wide, unit := flat(ofInt(top())), flat(ofInt(more(top(), -1))), in(1, 0)
	p, q := crossed(600)
	// beside is a map that leaves 1/2 and -1/2: its factor is 2 a + 1 over 2 a - 1.
	beside := func(a num) chart { return curved(a, flat(rat(1, 4)), a) }
	for _, x := range []struct {
		m    chart
		k    num
		fits bool
	}{
		{stretch(most), most, true},
		{stretch(num{ofInt(top()), under(top())}), num{ofInt(top()), under(top())}, true},
		{curved(wide, in(0, 0), in(-1, 0)), wide.neg(), true},            // top and 0 stay
		{curved(wide.neg(), in(0, 0), unit), wide.neg().inverse(), true}, // 0 and -top
		{slide(most), unit, true},
		{curved(most, in(-1, 0), flat(ofInt(more(top(), -2)))), unit, true},
		{beside(flat(ofInt(more(twos(8191), -1)))), most.over(flat(ofInt(more(top(), -2)))), true},
		{beside(flat(ofInt(twos(8191)))), flat(ofInt(more(past(), 1))).over(most), false},
		{beside(most), flat(ofInt(more(twos(8193), -1))).over(flat(ofInt(more(twos(8193), -3)))), false},
		{beside(flat(opposite(ofInt(twos(8191))))), most.over(flat(ofInt(more(past(), 1)))), false},
		{curved(p.plus(unit), in(-1, 0), unit.minus(q)), unit.plus(p).minus(q), false},
	} {
		if !x.m.fits() || x.k.fits() != x.fits {
			t.Fatalf("%s, %v", briefMap(x.m), x.k.fits())
		}
		if _, e := fixed.Points(x.m.mob()); e != api.OK {
			t.Fatalf("the points of %s: %v", briefMap(x.m), e)
		}
		wantFactor(t, x.m, x.k)
	}
}

func TestFactorRefuses(t *testing.T) { // P15.6: ErrArg, ErrMoved, ErrNone, ErrBig, in this order
	for _, m := range wrongMaps() {
		got, e := fixed.Factor(m)
		wantNone(t, "the factor of what may not be", got, e, api.ErrArg)
	}
	most := flat(ofInt(top()))
	// The factor would be short, but the errors of Points are those of Factor.
	for _, m := range []chart{{a: flat(rat(1, 2)), b: most, c: in(0, 0), d: in(1, 0)}, curved(most, in(0, 0), in(-1, 0)), curved(most.neg(), in(0, 0), in(1, 0))} {
		got, e := fixed.Factor(m.mob())
		wantNone(t, "the factor of "+briefMap(m), got, e, api.ErrBig)
		got, e = fixed.Factor(m.turned().mob())
		wantNone(t, "the factor of what turns", got, e, api.ErrMoved)
	}
	for _, m := range longs() {
		got, e := fixed.Factor(m.turned().mob())
		wantNone(t, "the factor of what turns", got, e, api.ErrMoved)
		if m.c.zero() {
			continue
		}
		got, e = fixed.Factor(m.mob())
		wantNone(t, "the factor of "+briefMap(m), got, e, api.ErrNone)
	}
}

func wantAlike(t *testing.T, m, n chart, wanted bool) {
	t.Helper()
	for _, both := range [][2]chart{{m, n}, {n, m}} {
		got, e := fixed.Alike(both[0].mob(), both[1].mob())
		wantIs(t, briefMap(both[0])+" and "+briefMap(both[1]), got, e, wanted)
	}
}

func TestAlikeExamples(t *testing.T) { // P15.6
	for _, x := range []struct {
		m, n chart
		want bool
	}{
		{stretch(in(2, 0)), stretch(flat(rat(1, 2))), true}, {stretch(in(2, 0)), stretch(in(2, 0)), true}, {stretch(in(2, 0)), stretch(in(3, 0)), false}, {stretch(in(0, 1)), stretch(in(0, -1)), true},
		{still(), still(), true}, {still(), slide(in(1, 0)), false}, {still(), charted(3, -1, 1, 1), false}, {slide(in(1, 0)), slide(in(0, -5)), true}, {slide(in(1, 0)), charted(3, -1, 1, 1), true},
		{swap(), stretch(in(-1, 0)), true}, {swap(), charted(0, 2, 1, 0), true}, {swap(), third(), false}, {third(), charted(-1, -1, 1, 0), true}, {third(), sixth(), false}, {still(), swap(), false},
		{stretch(in(0, 2)), stretch(in(0, -2)), false}, {stretch(in(0, 2)), stretch(num{none(), rat(-1, 2)}), true}, {stretch(in(2, 0)), stretch(in(-2, 0)), false}, {charted(1, 1, 1, 0), charted(0, 1, 1, -1), true},
		// The one is brought to the other by no exact map, but by another one.
		{charted(0, 2, 1, 0), charted(0, 1, 1, 0), true}, {charted(2, 1, 1, 1), ofSign(in(9, 0), in(1, 1), in(0, 3)), true},
	} {
		wantAlike(t, x.m, x.n, x.want)
	}
}

func TestAlikeMany(t *testing.T) { // P15.6
	seen := tally{}
	l := grains()
	for n := range l {
		for k := n % 7; k < len(l); k += 41 {
			wanted := l[n].still() == l[k].still() && l[n].sign().same(l[k].sign())
			wantAlike(t, l[n], l[k], wanted)
			seen[map[bool]string{true: "alike", false: "unlike"}[wanted]]++
		}
	}
	seen.least(t, 100, "alike", "unlike")
	r := rand.New(rand.NewSource(1561))
	for range 200 {
		m, k := oddMap(r, 3), oddNum(r, 2)
		wantAlike(t, m, m.brought(oddMap(r, 3)), true)
		if p, q := oddSpot(r, 2), oddNum(r, 2); !p.same(at(q)) && !k.zero() && !k.same(in(1, 0)) {
			wantAlike(t, spun(p, q, k), stretch(k), true)
			wantAlike(t, spun(p, q, k), stretch(k.inverse()), true)
			wantAlike(t, spun(p, q, k), slide(in(1, 0)), false)
		}
	}
}

func TestAlikeHoweverLong(t *testing.T) { // P15.6: no ErrBig
	l := longs()
	var signs []num
	for _, m := range l {
		signs = append(signs, m.sign())
	}
	for n := range l {
		for k := range n + 1 {
			wanted := signs[n].same(signs[k])
			wantAlike(t, l[n], l[k], wanted)
			if n == k && !wanted {
				t.Error("a map is not like itself")
			}
		}
		wantAlike(t, l[n], still(), false)
	}
	most, hair := flat(ofInt(top())), flat(under(top()))
	wantAlike(t, stretch(most), stretch(hair), true)
	wantAlike(t, stretch(most), stretch(flat(ofInt(more(top(), -1)))), false)
	wantAlike(t, stretch(most), chart{a: most, b: hair, c: in(0, 0), d: in(1, 0)}, true)
	wantAlike(t, curved(in(3, 0), in(-1, 0), in(1, 0)), curved(in(3, 0), hair.minus(in(1, 0)), in(1, 0)), false)
	wantAlike(t, curved(most, in(-1, 0), flat(ofInt(more(top(), -2)))), slide(hair), true)
}

func TestAlikeRefuses(t *testing.T) { // P15.6: ErrArg ahead of ErrMoved
	others := []api.Mob{still().mob(), swap().mob(), bar().mob(), longs()[0].mob(), {}}
	for n, m := range wrongMaps() {
		other := others[n%len(others)]
		got, e := fixed.Alike(m, other)
		wantNone(t, "the first one may not be", got, e, api.ErrArg)
		got, e = fixed.Alike(other, m)
		wantNone(t, "the second one may not be", got, e, api.ErrArg)
	}
	for _, m := range []chart{bar(), swap().turned(), third().turned(), longs()[0].turned()} {
		for _, n := range []chart{m, bar(), still(), swap(), slide(in(1, 0)), longs()[1]} {
			got, e := fixed.Alike(m.mob(), n.mob())
			wantNone(t, "the first one turns", got, e, api.ErrMoved)
			got, e = fixed.Alike(n.mob(), m.mob())
			wantNone(t, "the second one turns", got, e, api.ErrMoved)
		}
	}
}
