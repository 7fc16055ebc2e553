package fixed_test

import (
	"math/big"
	"math/rand"
	"testing"

	"tracery/api"
	"tracery/fixed"
)

func wantSign(t *testing.T, m chart, s num) {
	t.Helper()
	got, e := fixed.Sign(m.mob())
	want(t, "the sign of "+briefMap(m), got, e, s)
}

func wantKind(t *testing.T, m chart, kind api.MobKind) {
	t.Helper()
	got, e := fixed.Kind(m.mob())
	wantIs(t, "the kind of "+briefMap(m), got, e, kind)
}

// wantBoth holds a map against the chapter's words.
func wantBoth(t *testing.T, m chart) string {
	t.Helper()
	wantKind(t, m, m.kind())
	wantKind(t, m.turned(), m.turned().kind())
	wantSign(t, m, m.sign())
	got, e := fixed.Sign(m.turned().mob())
	wantNone(t, "the sign of what turns", got, e, api.ErrMoved)
	return kindName(m.kind())
}

func TestKindExamples(t *testing.T) { // P15.1
	for _, x := range []struct {
		m    chart
		sign num
		kind api.MobKind
	}{
		{slide(in(1, 0)), in(4, 0), api.MobShift},
		{swap(), in(0, 0), api.MobRound},
		{stretch(in(2, 0)), flat(rat(9, 2)), api.MobAway},
		{stretch(in(0, 1)), in(2, 0), api.MobRound},
		{stretch(in(0, 2)), num{rat(2, 1), rat(3, 2)}, api.MobSpiral},
		{still(), in(4, 0), api.MobStill},
		{third(), in(1, 0), api.MobRound},
		{sixth(), in(3, 0), api.MobRound},
		{stretch(in(-1, 0)), in(0, 0), api.MobRound},
		{stretch(in(-2, 0)), flat(rat(-1, 2)), api.MobSpiral},
		{stretch(flat(rat(1, 2))), flat(rat(9, 2)), api.MobAway},
		{charted(3, -1, 1, 1), in(4, 0), api.MobShift},
		{charted(0, 1, 1, 0), in(0, 0), api.MobRound},
		{charted(1, 1, 1, 0), in(-1, 0), api.MobSpiral},
		{charted(2, 1, 1, 1), in(9, 0), api.MobAway},
		{slide(in(0, -7)), in(4, 0), api.MobShift},
		{stretch(num{rat(3, 5), rat(4, 5)}), flat(rat(16, 5)), api.MobRound},
		{curved(in(0, 1), in(-1, 0), in(0, 0)), in(-1, 0), api.MobSpiral},
		{curved(in(1, 1), in(0, 0), in(1, 0)), num{rat(7, 2), rat(1, 2)}, api.MobSpiral},
	} {
		wantSign(t, x.m, x.sign)
		wantKind(t, x.m, x.kind)
		wantBoth(t, x.m)
	}
	for _, m := range []chart{bar(), swap().turned(), slide(in(1, 0)).turned(), stretch(in(2, 0)).turned()} {
		wantKind(t, m, api.MobTurns)
		got, e := fixed.Sign(m.mob())
		wantNone(t, "the sign of what turns", got, e, api.ErrMoved)
	}
}

func TestKindNumbers(t *testing.T) { // P15.1
	for k, kind := range []api.MobKind{api.MobStill, api.MobShift, api.MobRound, api.MobAway, api.MobSpiral, api.MobTurns} {
		if int(kind) != k+1 {
			t.Errorf("kind %d has the number %d", k+1, kind)
		}
	}
}

func TestSignAndKindMany(t *testing.T) { // P15.1
	seen := tally{}
	for _, m := range grains() {
		seen[wantBoth(t, m)]++
	}
	seen.least(t, 20, "shift", "round", "away", "spiral")
	seen.least(t, 1, "still")
	r := rand.New(rand.NewSource(1510))
	for range 400 {
		wantBoth(t, oddMap(r, 5))
	}
	for _, m := range longs() {
		wantBoth(t, m)
	}
}

// What a map is made of tells its kind, without its sign.
func TestKindOfFactors(t *testing.T) { // P15.1
	r := rand.New(rand.NewSource(1511))
	seen := tally{}
	for n := range 600 {
		p, q, k := oddSpot(r, 3), oddNum(r, 3), oddNum(r, 2)
		if n%2 == 0 {
			k = factors()[n/2%len(factors())]
		}
		if k.zero() || p.same(at(q)) {
			continue
		}
		m := still()
		if !k.same(in(1, 0)) {
			m = spun(p, q, k)
		}
		wantKind(t, m, kindOf(k))
		wantSign(t, m, k.plus(in(2, 0)).plus(k.inverse()))
		seen[kindName(kindOf(k))]++
		if b := oddNum(r, 2); !b.zero() {
			wantKind(t, pushed(p, b), api.MobShift)
			wantSign(t, pushed(p, b), in(4, 0))
		}
	}
	seen.least(t, 50, "round", "away", "spiral")
}

// ofSign is a map that has this sign, which is not 0, and this trace.
func ofSign(s, trace, d num) chart {
	a := trace.minus(d)
	return curved(a, a.times(d).minus(trace.times(trace).over(s)), d)
}

func TestKindNearTheBounds(t *testing.T) { // P15.1
	four, unit := in(4, 0), in(1, 0)
	for _, n := range []*big.Int{big.NewInt(1), big.NewInt(1000), twos(200), twos(4000)} {
		bit := under(n)
		for _, x := range []struct {
			sign num
			kind api.MobKind
		}{
			{four, api.MobShift},
			{flat(minus(rat(4, 1), bit)), api.MobRound},
			{flat(plus(rat(4, 1), bit)), api.MobAway},
			{num{rat(4, 1), bit}, api.MobSpiral},
			{num{rat(4, 1), opposite(bit)}, api.MobSpiral},
			{flat(bit), api.MobRound},
			{flat(opposite(bit)), api.MobSpiral},
			{num{none(), bit}, api.MobSpiral},
			{num{rat(2, 1), opposite(bit)}, api.MobSpiral},
			{num{rat(5, 1), bit}, api.MobSpiral},
		} {
			for _, m := range []chart{ofSign(x.sign, unit, in(0, 0)), ofSign(x.sign, in(3, -1), in(1, 2)), ofSign(x.sign, in(0, 5), in(-1, 0))} {
				wantSign(t, m, x.sign)
				wantKind(t, m, x.kind)
			}
		}
	}
	wantKind(t, curved(in(0, 0), in(5, 0), in(0, 0)), api.MobRound) // the sign is 0
	wantKind(t, curved(in(3, 1), in(5, 0), in(-3, -1)), api.MobRound)
}

// Signs that are too long, a hair beside 4, have a kind all the same.
func TestKindOfLongSigns(t *testing.T) { // P15.1
	hair := under(more(top(), -1))
	for _, x := range []struct {
		m    chart
		kind api.MobKind
	}{
		{stretch(flat(plus(rat(1, 1), hair))), api.MobAway},
		{stretch(num{rat(1, 1), hair}), api.MobSpiral},
		{stretch(flat(ofInt(top()))), api.MobAway},
		{stretch(flat(opposite(hair))), api.MobSpiral},
		{stretch(num{none(), hair}), api.MobSpiral},
		{curved(in(1, 0), flat(minus(hair, rat(1, 1))), in(-1, 0)), api.MobRound},
		{curved(in(3, 0), flat(plus(rat(-1, 1), hair)), in(1, 0)), api.MobAway},
		{curved(in(3, 0), flat(minus(rat(-1, 1), hair)), in(1, 0)), api.MobRound},
		{curved(in(3, 0), num{rat(-1, 1), hair}, in(1, 0)), api.MobSpiral},
		{curved(flat(ofInt(top())), in(-1, 0), flat(ofInt(more(top(), -2)))), api.MobShift},
		{curved(flat(ofInt(top())), in(-2, 0), flat(ofInt(more(top(), -2)))), api.MobRound},
		{curved(flat(ofInt(top())), flat(rat(-1, 2)), flat(ofInt(more(top(), -2)))), api.MobAway},
	} {
		wantKind(t, x.m, x.kind)
		wantBoth(t, x.m)
	}
}

func TestSignAtTheBound(t *testing.T) { // P15.1
	unit := in(1, 0)
	long := flat(ofInt(top()))
	seen := tally{}
	for _, x := range []struct {
		m    chart
		sign num
	}{
		{ofSign(long, unit, in(0, 0)), long},
		{ofSign(long.neg(), unit, in(0, 0)), long.neg()},
		{ofSign(long.inverse(), unit, in(0, 0)), long.inverse()},
		{ofSign(num{rat(1, 2), ofInt(twos(4094))}, unit, in(0, 0)), num{rat(1, 2), ofInt(twos(4094))}},
		// One past it: 256 to the power 1024, above the line and below.
		{curved(unit, flat(under(root())).neg(), in(0, 0)), flat(ofInt(root()))},
		{curved(flat(ofInt(root())), in(-1, 0), in(0, 0)), flat(ofInt(past()))},
		{curved(flat(under(root())), in(-1, 0), in(0, 0)), flat(under(past()))},
		{curved(num{none(), ofInt(root())}, in(-1, 0), in(0, 0)), flat(opposite(ofInt(past())))},
		{curved(flat(ofInt(more(root(), -1))), in(-1, 0), in(0, 0)), flat(ofInt(new(big.Int).Mul(more(root(), -1), more(root(), -1))))},
		// Trace and det may be longer than may be.
		{curved(long, in(-1, 0), flat(ofInt(more(top(), -2)))), in(4, 0)},
		{curved(long.inverse(), flat(opposite(under(top()))), flat(rat(0, 1))), flat(under(top()))},
		{curved(long, num{rat(-1, 1), none()}, long.neg()), in(0, 0)},
		{slide(num{ofInt(top()), under(top())}), in(4, 0)},
	} {
		if !x.m.fits() {
			t.Fatalf("%s is too long", briefMap(x.m))
		}
		wantSign(t, x.m, x.sign)
		wantBoth(t, x.m)
		if x.sign.fits() {
			seen["fits"]++
		} else {
			seen["too big"]++
		}
	}
	seen.least(t, 3, "fits", "too big")
}

func TestSignAndKindRefuse(t *testing.T) { // P15.1: ErrArg ahead of ErrMoved, that ahead of ErrBig
	for _, m := range wrongMaps() {
		s, e := fixed.Sign(m)
		wantNone(t, "the sign of what may not be", s, e, api.ErrArg)
		kind, e := fixed.Kind(m)
		wantNone(t, "the kind of what may not be", kind, e, api.ErrArg)
	}
	for _, m := range longs() {
		s, e := fixed.Sign(m.turned().mob())
		wantNone(t, "the sign of what turns", s, e, api.ErrMoved)
		wantKind(t, m.turned(), api.MobTurns)
	}
}
