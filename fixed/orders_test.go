package fixed_test

import (
	"math/rand"
	"strconv"
	"testing"

	"tracery/api"
	"tracery/fixed"
	"tracery/mob"
)

func wantOrder(t *testing.T, m chart, order int) {
	t.Helper()
	got, e := fixed.Order(m.mob())
	wantIs(t, "the order of "+briefMap(m), got, e, order)
}

// turn is z to k over its conjugate.
func turn(k num) chart { return chart{a: in(0, 0), b: k, c: in(1, 0), d: in(0, 0), turns: true} }

func TestOrderExamples(t *testing.T) { // P15.5
	for _, x := range []struct {
		m     chart
		order int
	}{
		{slide(in(1, 0)), 0}, {swap(), 2}, {bar(), 2}, {stretch(in(0, 1)), 4}, {third(), 3},
		{still(), 1}, {sixth(), 6}, {stretch(in(0, -1)), 4}, {stretch(in(-1, 0)), 2}, {charted(0, 1, 1, 0), 2}, {charted(1, 1, 1, -1), 2},
		{charted(-1, -1, 1, -1), 4}, {charted(-1, -1, 1, 0), 3}, {charted(2, -1, 1, 1), 6}, {charted(2, -3, 1, -1), 3}, {charted(-1, -5, 1, 4), 0}, {charted(-1, -7, 1, 4), 6}, {charted(-1, 0, 1, 1), 2},
		{stretch(in(2, 0)), 0}, {stretch(in(-2, 0)), 0}, {stretch(in(0, 2)), 0}, {charted(3, -1, 1, 1), 0}, {charted(2, 1, 1, 1), 0},
		// They go round, but never come back.
		{stretch(num{rat(3, 5), rat(4, 5)}), 0}, {charted(0, -1, 1, 0).behind(stretch(num{rat(3, 5), rat(4, 5)})), 2}, {ofSign(flat(rat(1, 2)), in(1, 0), in(0, 0)), 0}, {ofSign(flat(rat(7, 2)), in(1, 0), in(2, 1)), 0},
		// Of maps that turn.
		{slide(in(1, 0)).turned(), 0}, {slide(in(0, 1)).turned(), 2}, {stretch(in(2, 0)).turned(), 0}, {stretch(in(0, 1)).turned(), 2}, {stretch(num{rat(3, 5), rat(4, 5)}).turned(), 2},
		{turn(in(1, 0)), 2}, {turn(in(-1, 0)), 2}, {turn(in(0, 1)), 4}, {turn(in(0, -3)), 4}, {turn(in(1, 1)), 8}, {turn(in(2, -2)), 8}, {turn(in(2, 1)), 0},
		{third().turned(), 6}, {sixth().turned(), 6}, {charted(-1, -1, 1, -1).turned(), 4}, {charted(2, 1, 1, 1).turned(), 0},
	} {
		wantOrder(t, x.m, x.order)
		if x.m.order() != x.order {
			t.Errorf("%s comes back behind %d", briefMap(x.m), x.m.order())
		}
	}
}

func TestOrderMany(t *testing.T) { // P15.5
	seen := tally{}
	for _, m := range grains() {
		n, k := m.order(), m.turned().order()
		wantOrder(t, m, n)
		wantOrder(t, m.turned(), k)
		seen[strconv.Itoa(n)]++
		seen["turned "+strconv.Itoa(k)]++
		if n == 0 && m.kind() == api.MobRound {
			seen["round, and not back"]++
		}
	}
	seen.least(t, 3, "0", "2", "3", "4", "6", "turned 0", "turned 2", "turned 4", "round, and not back")
	seen.least(t, 1, "1", "turned 6", "turned 8")
	r := rand.New(rand.NewSource(1540))
	comeback := []chart{still(), swap(), third(), stretch(in(0, 1)), sixth(), bar(), turn(in(0, 1)), third().turned(), turn(in(1, 1)), stretch(num{rat(3, 5), rat(4, 5)}), turn(in(2, 1)), slide(in(1, 0)).turned()}
	for n := range 240 {
		by, m := oddMap(r, 3), comeback[n%len(comeback)]
		// What is brought elsewhere by a map comes back as soon.
		wantOrder(t, m.brought(by), m.order())
		wantOrder(t, by, by.order())
		wantOrder(t, by.turned(), by.turned().order())
	}
}

// Powers on the way may be too long to be told.
func TestOrderHoweverLong(t *testing.T) { // P15.5: no ErrBig
	r := rand.New(rand.NewSource(1541))
	long := 0
	for _, m := range []chart{swap(), third(), stretch(in(0, 1)), sixth(), bar(), turn(in(0, 1)), third().turned(), turn(in(1, 1))} {
		for _, b := range []num{fullNum(r, 100), flat(full(r, 200)), {none(), full(r, 250)}, flat(ofInt(twos(4000)))} {
			n := m.brought(slide(b))
			if !n.fits() {
				t.Fatalf("%s is too long", briefMap(n))
			}
			wantOrder(t, n, m.order())
		}
	}
	// By numbers as long as may be: z to k (z - q) + q with k = i, -1.
	for _, k := range []num{in(0, 1), in(-1, 0), in(0, -1)} {
		m := chart{a: k, b: num{ofInt(top()), under(top())}, c: in(0, 0), d: in(1, 0)}
		wantOrder(t, m, stretch(k).order())
		if _, e := mob.Power(m.mob(), 3); e == api.ErrBig {
			long++
		}
	}
	// Of a det given, and a trace, the rest is as one likes.
	a := flat(ofInt(more(root(), -1)))
	for _, x := range []struct {
		trace, det num
		order      int
	}{
		{in(0, 0), in(1, 0), 2}, {in(1, 0), in(1, 0), 3}, {in(2, 0), in(2, 0), 4}, {in(3, 0), in(3, 0), 6}, {in(1, 1), in(0, 1), 4}, {in(1, 0), in(-1, 0), 0}, {in(2, 0), in(1, 0), 0},
	} {
		d := x.trace.minus(a)
		m := curved(a, a.times(d).minus(x.det), d)
		if !m.fits() {
			t.Fatalf("%s is too long", briefMap(m))
		}
		wantOrder(t, m, x.order)
		if _, e := mob.Power(m.mob(), 4); e == api.ErrBig {
			long++
		}
	}
	if long < 2 {
		t.Errorf("just %d powers are too long", long)
	}
	for _, m := range longs() {
		if m.a.plus(m.d).zero() {
			wantOrder(t, m, 2)
		} else {
			wantOrder(t, m, 0)
		}
	}
	most := flat(ofInt(top()))
	wantOrder(t, slide(num{none(), ofInt(top())}).turned(), 2)
	wantOrder(t, slide(most).turned(), 0)
	wantOrder(t, turn(most), 2)
	wantOrder(t, turn(num{ofInt(top()), ofInt(top())}), 8)
	wantOrder(t, turn(num{ofInt(top()), ofInt(more(top(), -1))}), 0)
	wantOrder(t, longs()[0].turned(), 0)
}

func TestOrderRefuses(t *testing.T) { // P15.5
	for _, m := range wrongMaps() {
		got, e := fixed.Order(m)
		wantNone(t, "the order of what may not be", got, e, api.ErrArg)
	}
}
