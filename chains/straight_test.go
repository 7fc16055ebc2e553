package chains_test

import (
	"math/big"
	"math/rand"
	"testing"

	"tracery/api"
	"tracery/chains"
)

// wantStraight wants what P22.7 says of the image of the strip by a map that
// does not turn: the map that undoes it, or that it is too big. Of the same,
// turned over the real line ahead, or inside out, there is none.
func wantStraight(t *testing.T, m chart, seen tally) {
	t.Helper()
	f := m.images(strip())
	if !f.fits() {
		return
	}
	back := m.back()
	if !back.images(f).same(strip()) {
		t.Fatal("that map does not lead back")
	}
	got, e := chains.Straight(f.disks())
	seen.fit(back.fits())
	if back.fits() {
		want(t, "Straight", got, e, back.mob())
	} else {
		wantNone(t, "Straight", got, e, api.ErrBig)
	}
	got, e = chains.Straight(f.out().disks())
	wantNone(t, "Straight of a row inside out", got, e, api.ErrNone)
	for _, g := range []quad{m.images(still().turned().images(strip())), f.swapped(0, 1), f.swapped(2, 3), f.swapped(0, 2)} {
		if g.upright() {
			t.Fatal("that is to be a row which winds the other way")
		}
		if g.fits() {
			got, e = chains.Straight(g.disks())
			wantNone(t, "Straight of a row that only a map that turns sends there", got, e, api.ErrNone)
			got, e = chains.Straight(g.out().disks())
			wantNone(t, "Straight of a row that winds the other way, inside out", got, e, api.ErrNone)
		}
	}
}

func TestStraight(t *testing.T) { // P22.7
	got, e := chains.Straight(chains.Strip())
	want(t, "Straight of the strip", got, e, still().mob())
	got, e = chains.Straight(strip().on(3).disks())
	want(t, "Straight of the strip further on", got, e, slide(in(-6, 0)).mob())
	// The same disks the other way round: z to 2 + 2 i - z.
	got, e = chains.Straight(quad{strip()[1], strip()[0], strip()[3], strip()[2]}.disks())
	want(t, "Straight of the strip the other way round", got, e, chart{a: in(-1, 0), b: in(2, 2), c: in(0, 0), d: in(1, 0)}.mob())
	seen := tally{}
	for _, m := range charts() {
		if !m.turns {
			wantStraight(t, m, seen)
		}
	}
	r := rand.New(rand.NewSource(2270))
	for n := range 150 {
		m := oddChart(r, 1+n/20)
		m.turns = false
		wantStraight(t, m, seen)
	}
	seen.least(t, 100, "fits")
}

// By no map that is known ahead: what is told sends the row to the strip, and
// there is one just if the row is upright.
func TestStraightOfRows(t *testing.T) { // P22.7
	seen := tally{}
	for _, f := range rows(120) {
		for _, g := range []quad{f, f.on(7), f.on(-2), f.swapped(0, 1), f.swapped(1, 2), f.swapped(2, 3)} {
			if !g.fits() {
				continue
			}
			m, e := chains.Straight(g.disks())
			seen.when("upright", g.upright())
			seen.when("not upright", !g.upright())
			switch {
			case !g.upright():
				wantNone(t, "Straight", m, e, api.ErrNone)
			case e == api.ErrBig:
				wantNone(t, "Straight", m, e, api.ErrBig)
				seen.when("too big", true)
			default:
				to := chartOf(m)
				if e != api.OK || m.Turns || !to.fits() || !to.images(g).same(strip()) {
					t.Fatalf("Straight is %s, %v", brief(m), e)
				}
			}
		}
	}
	seen.least(t, 100, "upright", "not upright")
}

// chartOf is for maps that may be.
func chartOf(m api.Mob) chart {
	of := func(z api.Gauss) num { return num{ratOf(z.Re), ratOf(z.Im)} }
	return chart{a: of(m.A), b: of(m.B), c: of(m.C), d: of(m.D), turns: m.Turns}
}

// ratOf is for fractions that may be.
func ratOf(x api.Frac) *big.Rat {
	r := new(big.Rat).SetFrac(new(big.Int).SetBytes([]byte(x.Num.Mag)), new(big.Int).SetBytes([]byte(x.Den.Mag)))
	if x.Num.Neg {
		r.Neg(r)
	}
	return r
}

func TestStraightLong(t *testing.T) { // P22.7
	r := rand.New(rand.NewSource(2271))
	flats, rounds := tally{}, tally{}
	for n := 0; n < 12; n += 3 {
		wantStraight(t, stretch(flat(fullRat(r, 1000+2*n))), flats)
		wantStraight(t, stretch(fullUnit(r, 500+n)), flats)
		wantStraight(t, slide(num{fullRat(r, 250), fullRat(r, 240+n)}), flats)
		wantStraight(t, stretch(fullUnit(r, 200+20*n).scaled(fullRat(r, 500))), flats)
		wantStraight(t, chart{fullUnit(r, 20*n+20).scaled(fullRat(r, 40*n+40)), flat(fullRat(r, 10+n)), in(0, 0), in(1, 0), false}, flats)
		wantStraight(t, round(in(0, 0), in(0, 0), fullUnit(r, 200+20*n).scaled(fullRat(r, 500))), rounds)
		wantStraight(t, round(flat(ofInt(full(r, 100+10*n))), num{none(), ofInt(full(r, 100+10*n))}, fullUnit(r, 100)), rounds)
		wantStraight(t, round(num{fullRat(r, 20*n+10), none()}, flat(fullRat(r, 20*n+10)), flat(fullRat(r, 200))), rounds)
		wantStraight(t, round(in(0, 0), fullUnit(r, 40*n+10), fullUnit(r, 40*n+10).scaled(fullRat(r, 10))), rounds)
	}
	flats.least(t, 2, "fits", "too big")
	rounds.least(t, 2, "fits", "too big")
}

// A is k times a number of the magnitude 1, with the parts 3/5 and -4/5.
func TestStraightAtTheBound(t *testing.T) { // P22.7
	for by, wanted := range map[int64]api.Errno{-1: api.OK, 0: api.OK, 1: api.ErrBig, 3: api.ErrBig} {
		k := more(shared(top(), 4), by)
		if new(big.Int).Mod(k, big.NewInt(5)).Sign() == 0 {
			t.Fatal("5 is not to divide it")
		}
		m := stretch(parts(3, 5, 4, 5).scaled(under(k)))
		if !m.images(strip()).fits() {
			t.Fatal("the row is to fit")
		}
		_, e := chains.Straight(m.images(strip()).disks())
		if e != wanted {
			t.Errorf("Straight at the bound is %v, want %v", e, wanted)
		}
		wantStraight(t, m, tally{})
	}
}

// The points in which the disks touch are too big here, and the map is not.
func TestStraightOverLongPoints(t *testing.T) { // P22.7
	r := rand.New(rand.NewSource(2272))
	seen := tally{}
	for n := range 3 {
		z := num{ofInt(full(r, 480+10*n)), ofInt(full(r, 480+10*n))}
		e := z.over(z.conj())
		m := chart{a: e.scaled(inverse(z.norm())), b: e.scaled(inverse(z.norm())).neg(), c: in(0, 0), d: in(1, 0)}
		if m.b.fits() || !m.back().fits() || !m.images(strip()).fits() {
			t.Fatal("the point alone is to be too big")
		}
		wantStraight(t, m, seen)
	}
	seen.least(t, 3, "fits")
}

func TestStraightRefuses(t *testing.T) { // P22.7
	for _, row := range wrongRows() {
		m, e := chains.Straight(row)
		wantNone(t, "Straight of a wrong disk", m, e, api.ErrArg)
	}
	for _, f := range loose() {
		m, e := chains.Straight(f.disks())
		wantNone(t, "Straight of four that do not touch", m, e, api.ErrTouch)
	}
}
