package invert_test

import (
	"math/big"
	"math/rand"
	"testing"

	"tracery/api"
	"tracery/invert"
)

// mirror finds over which circle m turns by what comes back where it is done
// twice, and then by what stays.
func (m chart) mirror() (ring, bool) {
	switch {
	case !m.turns:
		return ring{}, false
	case m.c.zero():
		if m.a.norm().Cmp(rat(1, 1)) != 0 || !m.a.times(m.b.conj()).same(m.b.neg()) {
			return ring{}, false
		}
		normal := in(1, 0).minus(m.a) // m takes what is upright to its opposite
		if normal.zero() {
			normal = in(0, 1)
		}
		return upon(normal, m.b.scaled(rat(1, 2))), true
	}
	square := plus(m.b.re, m.a.norm())
	if !m.d.same(m.a.conj().neg()) || m.b.im.Sign() != 0 || square.Sign() <= 0 {
		return ring{}, false
	}
	return about(m.a, square), true
}

func wantIs(t *testing.T, m chart) string {
	t.Helper()
	got, e := invert.Is(m.mob())
	what := "what turns by " + briefMap(m.mob())
	k, is := m.mirror()
	if !is {
		wantNone(t, what, got, e, api.ErrNone)
		return "ErrNone"
	}
	want(t, what, got, e, k)
	switch {
	case !k.fits():
		return "ErrBig"
	case k.line():
		return "line"
	}
	return "round"
}

func TestIs(t *testing.T) { // P14.3
	seen := tally{}
	small := []num{in(0, 0), in(1, 0), in(-1, 0), in(0, 1), in(0, -1), in(1, 1), in(-1, 1), in(2, 0), in(-3, 0), {rat(3, 5), rat(4, 5)}, {rat(-4, 5), rat(3, 5)}}
	for _, a := range small {
		for _, b := range small {
			for _, d := range small {
				for _, m := range []chart{{a, b, in(1, 0), d, true}, {a, b.times(d), in(0, 0), in(1, 0), true}} {
					if m.det().zero() {
						continue
					}
					seen[wantIs(t, m)]++
					wantIs(t, m.turned())
				}
			}
		}
	}
	seen.least(t, 20, "ErrNone", "line", "round")
	lost := 0
	for _, k := range rings() {
		m := k.over()
		if !m.fits() {
			lost++
			continue
		}
		got, e := invert.Is(m.mob())
		want(t, "what turns over"+briefRings(k), got, e, k)
		wantIs(t, m)
		wantIs(t, m.turned())
	}
	if lost > 10 {
		t.Errorf("%d turnings are too big", lost)
	}
	r := rand.New(rand.NewSource(1430))
	for range 200 {
		// Behind what slides along it a line's turning is none, but across it is.
		k := oddRing(r, 3)
		m := k.over()
		wantIs(t, slide(oddNum(r, 1)).behind(m))
		wantIs(t, slide(k.b.conj().scaled(odd(r, 2))).behind(m))
		wantIs(t, slide(k.b.conj().quarter()).behind(m))
		if m := (chart{oddNum(r, 2), oddNum(r, 2), in(1, 0), oddNum(r, 2), true}); !m.det().zero() {
			wantIs(t, m)
		}
	}
}

func TestIsExamples(t *testing.T) { // P14.3
	for _, x := range []struct {
		m chart
		k ring
	}{
		{charted(0, 1, 1, 0).turned(), unit()}, {still().turned(), reals()}, {slide(in(0, 2)).turned(), high()}, {charted(-1, 0, 0, 1).turned(), ups()}, {charted(-1, 2, 0, 1).turned(), beside(rat(1, 1))},
		{charted(0, 9, 1, 0).turned(), o(0, 0, 3)}, {charted(2, -3, 1, -2).turned(), o(2, 0, 1)}, {chart{in(0, 1), in(0, 0), in(0, 0), in(1, 0), true}, ringed(0, 1, 1, 0)},
		{chart{in(0, -1), in(0, 0), in(0, 0), in(1, 0), true}, ringed(0, 1, -1, 0)}, {chart{num{rat(3, 5), rat(4, 5)}, in(0, 0), in(0, 0), in(1, 0), true}, ringed(0, 1, 2, 0)},
	} {
		got, e := invert.Is(x.m.mob())
		want(t, "what turns by "+briefMap(x.m.mob()), got, e, x.k)
	}
	for _, m := range []chart{
		charted(0, -1, 1, 0).turned(), still(), charted(0, 1, 1, 0), charted(0, -1, 1, 0), slide(in(0, 2)), charted(-1, 0, 0, 1), // the one across, and such that do not turn
		slide(in(1, 0)).turned(), slide(in(1, 2)).turned(), charted(2, 0, 0, 1).turned(), charted(-2, 0, 0, 1).turned(), charted(-1, 0, 0, 1).turned().behind(slide(in(0, 1))), // what slides along, or stretches
		charted(2, -5, 1, -2).turned(), charted(2, -3, 1, 2).turned(), charted(1, 1, 1, 0).turned(), // a radius squared of -1, no way back
		{in(0, 0), in(0, 1), in(1, 0), in(0, 0), true}, {in(0, 1), in(1, 0), in(1, 0), in(0, -2), true},
	} {
		got, e := invert.Is(m.mob())
		wantNone(t, "what turns by "+briefMap(m.mob()), got, e, api.ErrNone)
	}
}

func TestIsAtTheBound(t *testing.T) { // P14.3
	most := ofInt(top())
	steepness := ofInt(less(root(), 1)) // the turning over a line of this slope still fits
	inclined := func(c *big.Rat) chart { return ring{none(), num{rat(1, 1), steepness}, c}.over() }
	norm := plus(rat(1, 1), times(steepness, steepness))
	wide := inclined(times(norm, ofInt(root())))
	beside := wide // a little off: what is no turning is told ahead of what is too big
	beside.b = num{plus(wide.b.re, rat(1, 1)), wide.b.im}
	up := wide
	up.b = num{wide.b.re, minus(wide.b.im, rat(1, 1))}
	r := rand.New(rand.NewSource(1431))
	for _, x := range []struct {
		m    chart
		want string
	}{
		{wide, "ErrBig"}, {beside, "ErrNone"}, {up, "ErrNone"}, {wide.turned(), "ErrNone"}, {inclined(norm), "line"}, {inclined(opposite(norm)), "line"}, {inclined(times(norm, rat(-3, 2))), "ErrBig"},
		{inclined(times(norm, rat(1, 2))), "line"}, {inclined(times(norm, rat(2, 1))), "ErrBig"}, {inclined(none()), "line"}, {inclined(rat(1, 1)), "line"},
		{longs()[0].over(), "round"}, {longs()[7].over(), "round"}, {longs()[10].over(), "line"}, {longs()[11].over(), "line"}, {slide(num{none(), most}).turned(), "line"}, {slide(num{under(top()), most}).turned(), "ErrNone"},
		{chart{real(most), real(opposite(most)), in(1, 0), real(opposite(most)), true}, "round"}, {chart{in(0, 0), real(opposite(most)), in(1, 0), in(0, 0), true}, "ErrNone"}, {chart{in(0, 0), real(under(top())), in(1, 0), in(0, 0), true}, "round"},
		{chart{fullNum(r, 1024), fullNum(r, 1024), in(1, 0), fullNum(r, 1024), true}, "ErrNone"}, {chart{fullNum(r, 1024), fullNum(r, 1024), in(0, 0), in(1, 0), true}, "ErrNone"},
	} {
		if !x.m.fits() {
			t.Fatalf("%s does not fit", briefMap(x.m.mob()))
		}
		if got := wantIs(t, x.m); got != x.want {
			t.Errorf("what turns by %s: %s, want %s", briefMap(x.m.mob()), got, x.want)
		}
	}
}

func TestIsRefuses(t *testing.T) { // P14.3
	for _, m := range wrongMaps() {
		got, e := invert.Is(m)
		wantNone(t, "what turns by a wrong map", got, e, api.ErrArg)
	}
}

func wantRight(t *testing.T, k, l ring) bool {
	t.Helper()
	wanted := k.right(l)
	if got, e := invert.Right(k.circle(), l.circle()); got != wanted || e != api.OK {
		t.Fatalf("%s cross at right angles: %v, %v, want %v", briefRings(k, l), got, e, wanted)
	}
	return wanted
}

func TestRight(t *testing.T) { // P14.3
	seen := map[bool]int{}
	pairs(func(k, l ring) { seen[wantRight(t, k, l)]++ })
	if seen[true] < 100 || seen[false] < 100 {
		t.Errorf("%d at right angles, %d not", seen[true], seen[false])
	}
}

func TestRightExamples(t *testing.T) { // P14.3
	for _, x := range []struct {
		k, l ring
		want bool
	}{
		{unit(), reals(), true}, {unit(), high(), false}, {unit(), unit(), false}, {reals(), reals(), false}, {reals(), ups(), true}, {reals(), high(), false}, {ringed(0, 1, 1, 0), ringed(0, 1, -1, 0), true}, {ringed(0, 1, 1, 0), reals(), false},
		{o(0, 0, 3), o(5, 0, 4), true}, {o(0, 0, 3), o(0, -5, 4), true}, {o(0, 0, 3), o(5, 0, 3), false}, {unit(), o(0, 0, 2), false}, {unit(), o(2, 0, 1), false}, {o(3, 4, 1), upon(in(1, 7), in(3, 4)), true}, {o(3, 4, 1), upon(in(1, 7), in(3, 5)), false},
		{unit(), about(in(1, 1), rat(1, 1)), true}, {unit(), about(in(1, 1), rat(2, 1)), false}, {ringed(1, 0, 0, -2), about(in(1, 1), rat(1, 1)), false},
	} {
		for _, l := range [][2]ring{{x.k, x.l}, {x.l, x.k}} {
			wantRight(t, l[0], l[1])
			if got, e := invert.Right(l[0].circle(), l[1].circle()); got != x.want || e != api.OK {
				t.Errorf("%s cross at right angles: %v, %v", briefRings(l[0], l[1]), got, e)
			}
		}
	}
}

// How long the numbers are does not matter, nor by how little they are off.
func TestRightAtAnyLength(t *testing.T) { // P14.3
	r := rand.New(rand.NewSource(1432))
	count := 0
	for range 30 {
		x, c, d := fullNum(r, api.MaxWhole), full(r, api.MaxWhole), full(r, 1)
		first, second := ring{rat(1, 1), x, c}, ring{rat(1, 1), x.quarter(), opposite(c)}
		if first.empty() {
			continue
		}
		off, line := second, ring{none(), num{rat(1, 1), d}, times(d, rat(2, 1))}
		off.c = new(big.Rat).SetFrac(new(big.Int).Add(off.c.Num(), big.NewInt(1)), off.c.Denom())
		upright := ring{none(), num{rat(1, 1), opposite(quo(rat(1, 1), d))}, c}
		for n, l := range [][2]ring{{first, second}, {line, upright}, {first, off}, {line, first}} {
			if !l[0].fits() || !l[1].fits() || l[1].empty() {
				continue
			}
			count++
			if wantRight(t, l[0], l[1]) != (n < 2) || wantRight(t, l[1], l[0]) != (n < 2) {
				t.Fatalf("%s at right angles: want %v", briefRings(l[:]...), n < 2)
			}
		}
	}
	if count < 50 {
		t.Errorf("just %d were asked", count)
	}
	if !wantRight(t, steep(), upon(steep().b.conj().quarter(), in(3, 0))) || wantRight(t, steep(), reals()) || wantRight(t, longs()[0], longs()[2]) {
		t.Error("lines of long numbers")
	}
}

func TestRightRefuses(t *testing.T) { // P14.3
	for _, c := range wrongCircles() {
		for _, d := range []api.Circle{unit().circle(), reals().circle(), longs()[0].circle(), {}, c} {
			got, e := invert.Right(c, d)
			wantNone(t, "a wrong circle at right angles", got, e, api.ErrArg)
			got, e = invert.Right(d, c)
			wantNone(t, "at right angles to a wrong circle", got, e, api.ErrArg)
		}
	}
}
