package mob_test

import (
	"math"
	"math/big"
	"math/rand"
	"slices"
	"testing"

	"tracery/api"
	"tracery/mob"
)

func mobsOf(l []chart) []api.Mob {
	var out []api.Mob
	for _, m := range l {
		out = append(out, m.mob())
	}
	return out
}

// wantComposed goes over the last ones of the list, as the promise does.
func wantComposed(t *testing.T, l ...chart) {
	t.Helper()
	out, big := still(), false
	for k, m := range slices.Backward(l) {
		out = m.behind(out)
		if big = k < len(l)-1 && !out.fits(); big {
			break
		}
	}
	got, e := mob.Compose(mobsOf(l)...)
	if big {
		wantRefused(t, "Compose of what is too big", got, e, api.ErrBig)
		return
	}
	want(t, "Compose", got, e, out)
}

func TestCompose(t *testing.T) { // P8.3
	wantComposed(t)
	for _, m := range maps() {
		wantComposed(t, m)
		if m.inverse().fits() {
			wantComposed(t, m, m.inverse())
			wantComposed(t, m.inverse(), m)
		}
		wantComposed(t, still(), m)
		wantComposed(t, m, still(), still().turned())
	}
	r := rand.New(rand.NewSource(830))
	all := maps()
	for range 600 {
		var l []chart
		for range r.Intn(5) {
			l = append(l, all[r.Intn(len(all))])
		}
		wantComposed(t, l...)
	}
	for range 100 {
		wantComposed(t, oddChart(r, 12), oddChart(r, 12), oddChart(r, 12))
	}
}

func TestComposeExamples(t *testing.T) { // P8.3
	j, s := charted(0, 1, 1, 0), charted(1, 1, 0, 1)
	turned := stretch(in(0, 1)).turned()
	for _, x := range []struct {
		l    []chart
		want chart
	}{
		{nil, still()}, {[]chart{}, still()}, {[]chart{j, s}, charted(0, 1, 1, 1)}, {[]chart{s, j}, charted(1, 1, 1, 0)},
		{[]chart{turned, slide(in(0, 1))}, chart{in(0, 1), in(1, 0), in(0, 0), in(1, 0), true}}, {[]chart{slide(in(0, 1)), turned}, chart{in(0, 1), in(0, 1), in(0, 0), in(1, 0), true}},
		{[]chart{turned, turned}, still()}, {[]chart{turned, turned, turned}, turned}, {[]chart{s.turned(), s.turned(), s}, slide(in(3, 0))},
	} {
		got, e := mob.Compose(mobsOf(x.l)...)
		want(t, "Compose", got, e, x.want)
	}
}

func TestComposeRefusesTheLastOnes(t *testing.T) { // P8.3
	r := rand.New(rand.NewSource(831))
	most := stretch(real(ofInt(top())))
	least := most.inverse()
	wild := chart{fullNum(r, 1024), fullNum(r, 1024), in(1, 0), fullNum(r, 1024), false}
	for _, x := range []struct {
		l    []chart
		want api.Errno
	}{
		{[]chart{most}, api.OK}, {[]chart{wild}, api.OK}, {[]chart{wild.turned()}, api.OK}, {[]chart{most, most}, api.ErrBig},
		// The last two are too big, all are not; the first two are, the last ones are not.
		{[]chart{least, most, most}, api.ErrBig}, {[]chart{most, most, least}, api.OK}, {[]chart{most, least, most}, api.OK},
		{[]chart{still(), most, most, least}, api.OK}, {[]chart{least, least, most, most}, api.ErrBig}, {[]chart{most, least, least, most, most}, api.ErrBig},
		{[]chart{wild, wild.inverse()}, api.OK}, {[]chart{wild.inverse(), wild, wild.inverse()}, api.OK}, {[]chart{wild, wild}, api.ErrBig}, {[]chart{wild.inverse(), wild, wild}, api.ErrBig},
		{[]chart{wild.turned(), wild.turned().inverse(), wild.turned()}, api.OK},
	} {
		if _, e := mob.Compose(mobsOf(x.l)...); e != x.want {
			t.Errorf("%d composed: %v, want %v", len(x.l), e, x.want)
		}
		wantComposed(t, x.l...)
	}
	wantComposed(t, charted(1, 1, 0, 1), slide(real(ofInt(less(top(), 1)))))
	wantComposed(t, charted(1, 1, 0, 1), slide(real(ofInt(top()))))
}

func TestComposeAtItsBound(t *testing.T) { // P8.3
	l := slices.Repeat([]api.Mob{charted(1, 1, 0, 1).mob()}, api.MaxList)
	got, e := mob.Compose(l...)
	want(t, "as many slides as may be", got, e, slide(in(api.MaxList, 0)))
	l[99].Turns = true
	got, e = mob.Compose(l...)
	want(t, "as many slides as may be, one turned", got, e, slide(in(api.MaxList, 0)).turned())
	for k := range l {
		l[k] = stretch(in(0, 1)).turned().mob()
	}
	got, e = mob.Compose(l...)
	want(t, "as many turned maps as may be", got, e, still())
	got, e = mob.Compose(l[1:]...)
	want(t, "an odd number of turned maps", got, e, stretch(in(0, 1)).turned())
	// Done last, and done first.
	l[0], l[api.MaxList-1] = charted(0, 1, 1, 0).mob(), charted(1, 1, 0, 1).mob()
	got, e = mob.Compose(l...)
	want(t, "unlike maps at the ends", got, e, charted(0, 1, 1, 1))
	l = append(l, mob.One())
	got, e = mob.Compose(l...)
	wantRefused(t, "one map more than may be", got, e, api.ErrLong)
	l[5] = api.Mob{}
	got, e = mob.Compose(l...)
	wantRefused(t, "one more than may be, a wrong one among them", got, e, api.ErrLong)
	got, e = mob.Compose(l[:api.MaxList]...)
	wantRefused(t, "as many as may be, a wrong one among them", got, e, api.ErrArg)
}

func TestComposeRefusesWrongOnes(t *testing.T) { // P8.3
	most := stretch(real(ofInt(top()))).mob()
	for _, m := range wrongMaps() {
		for _, l := range [][]api.Mob{{m}, {m, mob.One()}, {mob.One(), m}, {m, m}, {m, most, most}, {most, most, m}} {
			got, e := mob.Compose(l...)
			wantRefused(t, "Compose of a wrong map", got, e, api.ErrArg)
		}
	}
}

func TestInverse(t *testing.T) { // P8.3
	check := func(m chart) {
		t.Helper()
		got, e := mob.Inverse(m.mob())
		wantChart(t, "the inverse of "+brief(m.mob()), got, e, m.inverse())
	}
	for _, m := range maps() {
		check(m)
	}
	quads(func(m chart) {
		if !m.det().zero() {
			check(m.formed())
		}
	})
	r := rand.New(rand.NewSource(832))
	for range 200 {
		check(oddChart(r, 30))
	}
	check(chart{fullNum(r, 1024), fullNum(r, 1024), in(1, 0), fullNum(r, 1024), true})
	got, e := mob.Inverse(charted(1, 1, 0, 1).mob())
	want(t, "the inverse of a slide", got, e, charted(1, -1, 0, 1))
	got, e = mob.Inverse(stretch(in(0, 1)).turned().mob())
	want(t, "the inverse of a turned map", got, e, stretch(in(0, 1)).turned())
	for _, m := range wrongMaps() {
		got, e := mob.Inverse(m)
		wantRefused(t, "the inverse of a wrong map", got, e, api.ErrArg)
	}
}

func TestInverseAtTheBound(t *testing.T) { // P8.3
	long := ofInt(twos(4096))
	for _, x := range []struct {
		m    chart
		want api.Errno
	}{
		{stretch(real(ofInt(top()))), api.OK}, {stretch(num{ofInt(twos(4095)), big.NewRat(1, 1)}), api.OK}, {stretch(num{long, big.NewRat(1, 1)}), api.ErrBig},
		{chart{real(big.NewRat(1, 2)), real(ofInt(twos(8190))), in(0, 0), in(1, 0), true}, api.OK}, {chart{real(big.NewRat(1, 2)), real(ofInt(twos(8191))), in(0, 0), in(1, 0), true}, api.ErrBig},
		{chart{real(big.NewRat(1, 2)), real(ofInt(twos(8191))), in(1, 0), in(1, 0), true}, api.OK},
	} {
		got, e := mob.Inverse(x.m.mob())
		if e != x.want {
			t.Errorf("the inverse of %s: %v, want %v", brief(x.m.mob()), e, x.want)
		}
		wantChart(t, "the inverse at the bound", got, e, x.m.inverse())
	}
}

// wantPowers goes over all powers up to the n-th, as the promise does.
func wantPowers(t *testing.T, m chart, n int) {
	t.Helper()
	for _, sign := range []int{1, -1} {
		step := m
		if sign < 0 {
			step = m.inverse()
		}
		out, big := still(), false
		for k := 0; k <= n; k++ {
			got, e := mob.Power(m.mob(), sign*k)
			if big {
				wantRefused(t, "a power behind one that is too big", got, e, api.ErrBig)
			} else {
				want(t, "a power of "+brief(m.mob()), got, e, out)
			}
			if !big { // what is too big grows on, and slows the test down
				out = step.behind(out)
				big = !out.fits()
			}
		}
	}
}

func TestPower(t *testing.T) { // P8.3
	for _, m := range maps() {
		wantPowers(t, m, 9)
	}
	r := rand.New(rand.NewSource(833))
	for range 30 {
		wantPowers(t, oddChart(r, 9), 8)
	}
	for _, m := range []chart{charted(1, 1, 0, 1), charted(2, 1, 1, 1), stretch(in(0, 1)), charted(0, -1, 1, 1), {in(1, 1), in(2, 0), in(1, 0), in(0, -1), true}} {
		wantPowers(t, m, api.MaxPower)
	}
}

func TestPowerExamples(t *testing.T) { // P8.3
	s := charted(1, 1, 0, 1)
	for _, x := range []struct {
		n    int
		want chart
	}{{-3, slide(in(-3, 0))}, {0, still()}, {1, s}, {-1, slide(in(-1, 0))}, {256, slide(in(256, 0))}, {-256, slide(in(-256, 0))}} {
		got, e := mob.Power(s.mob(), x.n)
		want(t, "a power of a slide", got, e, x.want)
	}
	for _, n := range []int{257, -257, math.MaxInt, math.MinInt} {
		got, e := mob.Power(s.mob(), n)
		wantRefused(t, "a power past its bound", got, e, api.ErrArg)
		got, e = mob.Power(stretch(real(ofInt(top()))).mob(), n)
		wantRefused(t, "a power past its bound, that is too big", got, e, api.ErrArg)
	}
	for _, m := range wrongMaps() {
		for _, n := range []int{0, 1, -1, 256, 257} {
			got, e := mob.Power(m, n)
			wantRefused(t, "a power of a wrong map", got, e, api.ErrArg)
		}
	}
}

func TestPowerAtTheBound(t *testing.T) { // P8.3
	half := real(new(big.Rat).SetFrac(top(), big.NewInt(2)))                  // twice it is not too big, 3 times is
	third := real(new(big.Rat).SetFrac(less(top(), 1), big.NewInt(3)))        // twice it is too big, 3 times is not
	edge := num{ofInt(top()), ofInt(top())}                                   // its parts' sum is too big
	under := num{ofInt(twos(8*api.MaxWhole - 2)), ofInt(less(twos(8190), 5))} // its parts' sum is not
	quarter := func(b num) chart { return chart{in(0, 1), b, in(0, 0), in(1, 0), false} }
	wide, dense := ofInt(twos(32)), ofInt(less(twos(32), 1))
	for _, x := range []struct {
		m       chart
		n, last int // the last power that is not too big, ahead of the first one that is
	}{
		{slide(half), 5, 2}, {slide(third), 7, 1}, {slide(third).inverse(), 7, 1}, {quarter(edge), 9, 1}, {quarter(under), 40, 40},
		{quarter(edge).behind(still().turned()), 9, 1}, {stretch(real(wide)), 256, 255}, {stretch(real(dense)), 256, 256}, {stretch(real(ofInt(top()))), 9, 1},
	} {
		out := still()
		for k := range x.n + 1 {
			if k <= x.last && !out.fits() || k == x.last+1 && out.fits() {
				t.Fatalf("the power %d of %s is not as the test has it", k, brief(x.m.mob()))
			}
			there, e := mob.Power(x.m.mob(), k)
			back, f := mob.Power(x.m.inverse().mob(), -k)
			if k <= x.last {
				want(t, "a power ahead of the bound", there, e, out)
				want(t, "a power of the inverse ahead of the bound", back, f, out)
			} else {
				wantRefused(t, "a power behind the bound", there, e, api.ErrBig)
				wantRefused(t, "a power of the inverse behind the bound", back, f, api.ErrBig)
			}
			out = x.m.behind(out)
		}
	}
	// An inverse that is too big is refused, whatever its powers are.
	m := stretch(num{ofInt(twos(4096)), big.NewRat(1, 1)}).mob()
	got, e := mob.Power(m, -1)
	wantRefused(t, "an inverse that is too big", got, e, api.ErrBig)
	got, e = mob.Power(m, 0)
	want(t, "the power 0", got, e, still())
}

// A long map that comes back, done as often as may be.
func TestPowerOfLongMapsThatComeBack(t *testing.T) { // P8.3
	r := rand.New(rand.NewSource(834))
	for _, m := range []chart{charted(0, 1, 1, 0), charted(0, -1, 1, 1), stretch(in(0, 1)), charted(1, -1, 1, 1)} {
		by := chart{fullNum(r, 50), fullNum(r, 50), in(1, 0), fullNum(r, 50), false}
		m = by.behind(m).behind(by.inverse())
		order, e := mob.Order(m.mob())
		if e != api.OK || order == 0 || !m.fits() {
			t.Fatalf("the order of a long map: %d, %v", order, e)
		}
		wanted := still()
		for k := range order {
			for _, n := range []int{k, 240 + k, k - 240} { // all orders divide 240
				got, e := mob.Power(m.mob(), n)
				want(t, "a power of a long map", got, e, wanted)
			}
			wanted = m.behind(wanted)
		}
	}
}

// wantOrder does the map as often as the promise's greatest order.
func wantOrder(t *testing.T, m chart) int {
	t.Helper()
	wanted, out := 0, still()
	for k := 1; k <= 12 && wanted == 0; k++ {
		if out = m.behind(out); out.mob() == still().mob() {
			wanted = k
		}
	}
	got, e := mob.Order(m.mob())
	if got != wanted || e != api.OK {
		t.Fatalf("the order of %s is %d, %v, want %d", brief(m.mob()), got, e, wanted)
	}
	return got
}

func TestOrder(t *testing.T) { // P8.3, P8.8
	turned, plain := map[int]int{}, map[int]int{}
	plain[wantOrder(t, charted(2, -1, 1, 1))]++
	quads(func(m chart) {
		if m.det().zero() {
			return
		}
		if m.turns {
			turned[wantOrder(t, m.formed())]++
		} else {
			plain[wantOrder(t, m.formed())]++
		}
	})
	for _, n := range []int{0, 1, 2, 3, 4, 6} {
		if plain[n] == 0 {
			t.Errorf("no map of the order %d has been asked", n)
		}
	}
	// 12 would want a sum of two squares that is 3 times a square: there is none.
	for _, n := range []int{0, 2, 4, 6, 8} {
		if turned[n] == 0 {
			t.Errorf("no turned map of the order %d has been asked", n)
		}
	}
	if len(plain) != 6 || len(turned) != 5 {
		t.Errorf("other orders: %v, %v", plain, turned)
	}
}

func TestOrderExamples(t *testing.T) { // P8.3
	r := rand.New(rand.NewSource(835))
	long := fullNum(r, api.MaxWhole)
	for _, x := range []struct {
		m    chart
		want int
	}{
		{charted(0, 1, 1, 0), 2}, {charted(1, 1, 0, 1), 0}, {still(), 1}, {charted(0, -1, 1, -1), 3}, {stretch(in(0, 1)), 4}, {stretch(in(0, 1)).turned(), 2}, {charted(2, 0, 0, 1), 0},
		{still().turned(), 2}, {slide(in(1, 0)).turned(), 0}, {slide(in(0, 1)).turned(), 2},
		// Maps whose powers, or the numbers on the way, are too big.
		{chart{long, fullNum(r, api.MaxWhole), in(1, 0), long.neg(), false}, 2}, {chart{long, fullNum(r, api.MaxWhole), in(1, 0), long, false}, 0}, {stretch(long), 0}, {slide(long), 0},
		{chart{in(0, 1), num{ofInt(top()), ofInt(top())}, in(0, 0), in(1, 0), false}, 4}, {chart{in(-1, 0), long, in(0, 0), in(1, 0), false}, 2},
	} {
		if got, e := mob.Order(x.m.mob()); got != x.want || e != api.OK {
			t.Errorf("the order of %s is %d, %v, want %d", brief(x.m.mob()), got, e, x.want)
		}
	}
	for _, m := range wrongMaps() {
		if got, e := mob.Order(m); got != 0 || e != api.ErrArg {
			t.Fatalf("the order of a wrong map is %d, %v", got, e)
		}
	}
}
