package plane_test

import (
	"math/big"
	"math/rand"
	"testing"

	"tracery/api"
	"tracery/mob"
	"tracery/plane"
)

func TestChart(t *testing.T) { // P25.2
	for _, x := range []struct {
		from, to api.Picture
		want     chart
	}{
		{api.Upper, api.Upper, still()}, {api.Round, api.Round, still()},
		{api.Upper, api.Round, toRound()}, {api.Round, api.Upper, toUpper().formed()},
	} {
		m, e := plane.Chart(x.from, x.to)
		want(t, "Chart", m, e, x.want.mob())
		if mob.Check(m) != api.OK {
			t.Errorf("%s may not be", brief(m))
		}
		for _, z := range append(points(x.from), outs(x.from)...) {
			if x.from != x.to && z.same(in(1, 0)) || x.from == api.Upper && z.same(in(0, -1)) {
				continue // it goes to infinity
			}
			if within(x.to, x.want.at(z)) != within(x.from, z) {
				t.Errorf("Chart sends %s from %d to %d wrongly", brief(z), x.from, x.to)
			}
		}
	}
	for _, p := range noPictures() {
		for _, q := range append(pictures(), noPictures()...) {
			m, e := plane.Chart(p, q)
			wantNone(t, "Chart from no picture", m, e, api.ErrArg)
			m, e = plane.Chart(q, p)
			wantNone(t, "Chart to no picture", m, e, api.ErrArg)
		}
	}
}

// keepers are maps that keep the picture, turned and not, and beside each one
// that takes the edge to itself, but the points to the other side.
func keepers(p api.Picture, most int, count int) (kept, swapped []chart) {
	r := rand.New(rand.NewSource(2570 + int64(p) + int64(most)))
	for len(kept) < count {
		m := chart{real(odd(r, most)), real(odd(r, most)), real(odd(r, most)), real(odd(r, most)), r.Intn(2) == 0}
		if len(kept)%4 == 0 {
			m.c, m.d = in(0, 0), in(1, 0)
		}
		if m.det().zero() {
			continue
		}
		if p == api.Round {
			m = toRound().behind(m).behind(toUpper())
		}
		m = m.formed()
		if !m.fits() {
			continue
		}
		other := m
		other.turns = !m.turns
		if p == api.Round { // turned over the edge: 1 over the conjugate
			other = chart{in(0, 0), in(1, 0), in(1, 0), in(0, 0), true}.behind(m)
		}
		if keptBy(p, m) {
			kept, swapped = append(kept, m), append(swapped, other)
		} else {
			kept, swapped = append(kept, other), append(swapped, m)
		}
	}
	return kept, swapped
}

func wantKeeps(t *testing.T, p api.Picture, m chart, wanted bool) {
	t.Helper()
	if mob.Check(m.mob()) != api.OK {
		t.Fatalf("%s may not be", brief(m))
	}
	keeps, e := plane.Keeps(p, m.mob())
	want(t, "Keeps of "+brief(m), keeps, e, wanted)
}

func TestKeeps(t *testing.T) { // P25.3
	for _, p := range pictures() {
		for most := range 8 {
			kept, swapped := keepers(p, 1+most, 12)
			for n, m := range kept {
				wantKeeps(t, p, m, true)
				wantKeeps(t, p, swapped[n], false)
				wantKeeps(t, p, m.turned(), keptBy(p, m.turned()))
				other := api.Upper + api.Round - p
				wantKeeps(t, other, m, keptBy(other, m))
				// Beside such a map lie others.
				for _, by := range []num{in(0, 1), in(1, 1), parts(3, 5, 4, 5), parts(999, 1000, 0, 1), {one(), under(top())}} {
					for _, x := range []chart{{m.a.times(by), m.b, m.c, m.d, m.turns}, {m.a, m.b.times(by), m.c, m.d, m.turns}, {m.a, m.b, m.c, m.d.times(by), m.turns}, {m.a, m.b.plus(by), m.c, m.d, m.turns}, {m.a, m.b.minus(by), m.c, m.d, m.turns}} {
						if x.det().zero() || !x.formed().fits() {
							continue
						}
						x = x.formed()
						wantKeeps(t, p, x, keptBy(p, x))
						wantKeeps(t, other, x, keptBy(other, x))
					}
				}
			}
		}
		wantKeeps(t, p, still(), true)
	}
}

// P25.3: maps named by hand; the last ones send the picture's points to some of
// them, but not to all.
func TestKeepsByHand(t *testing.T) {
	i := in(0, 1)
	for _, x := range []struct {
		m            chart
		upper, round bool
	}{
		{charted(1, 1, 0, 1), true, false}, {charted(2, 0, 0, 1), true, false}, {charted(-1, 0, 0, 1), false, true}, {charted(0, -1, 1, 0), true, false}, {charted(0, 1, 1, 0), false, false},
		{still().turned(), false, true}, {charted(-1, 0, 0, 1).turned(), true, true}, {charted(0, 1, 1, 0).turned(), true, false}, {charted(0, -1, 1, 0).turned(), false, false},
		{chart{i, in(0, 0), in(0, 0), in(1, 0), false}, false, true}, {chart{i, in(0, 0), in(0, 0), in(1, 0), true}, false, true}, {toRound(), false, false}, {toUpper().formed(), false, false},
		{chart{parts(3, 5, 4, 5), in(0, 0), in(0, 0), in(1, 0), false}, false, true}, {chart{in(1, 0), i, in(0, 0), in(1, 0), false}, false, false}, {chart{parts(1, 2, 0, 1), in(0, 0), in(0, 0), in(1, 0), false}, true, false},
		{chart{in(1, 0), parts(0, 1, 1, 1000), in(0, 0), in(1, 0), false}, false, false}, {chart{parts(1, 2, 0, 1), parts(1, 3, 0, 1), in(0, 0), in(1, 0), false}, true, false}, {chart{in(-1, 0), i, in(0, 0), in(1, 0), true}, false, false},
	} {
		wantKeeps(t, api.Upper, x.m, x.upper)
		wantKeeps(t, api.Round, x.m, x.round)
	}
}

// rims are three points of the edge, and a map is asked at such: here two of
// them stay on it, and the third one does not, though a point stays within.
func TestKeepsAllOfTheEdge(t *testing.T) { // P25.3
	r := rand.New(rand.NewSource(2580))
	inf := api.Point{Inf: true}
	at := func(z num) api.Point { return api.Point{Z: z.gauss()} }
	for _, x := range []struct {
		p    api.Picture
		edge []api.Point
		core num
	}{
		{api.Upper, []api.Point{at(in(0, 0)), at(in(1, 0)), inf, at(in(-1, 0)), at(parts(1, 2, 0, 1)), at(in(2, 0))}, in(0, 1)},
		{api.Round, []api.Point{at(in(1, 0)), at(in(-1, 0)), at(in(0, 1)), at(in(0, -1)), at(parts(3, 5, 4, 5)), at(parts(-4, 5, 3, 5))}, in(0, 0)},
	} {
		seen := 0
		for n := range 2000 {
			k := r.Perm(len(x.edge))
			from := [3]api.Point{x.edge[k[0]], x.edge[k[1]], x.edge[k[2]]}
			k = r.Perm(len(x.edge))
			to := [3]api.Point{x.edge[k[0]], x.edge[k[1]], at(oddNum(r, 1))}
			m, e := mob.Of(from, to, n%2 == 0)
			if e != api.OK {
				continue // both were one point
			}
			image, _ := mob.At(m, at(x.core))
			on := !image.Inf && plane.Has(x.p, image.Z)
			if on {
				seen++
			}
			third := to[2].Z
			keeps, e := plane.Keeps(x.p, m)
			edge := ratOf(third.Im).Sign() == 0
			if x.p == api.Round {
				edge = num{ratOf(third.Re), ratOf(third.Im)}.norm().Cmp(one()) == 0
			}
			want(t, "Keeps of "+brief(m), keeps, e, edge && on)
		}
		if seen < 300 {
			t.Errorf("just %d kept a point within", seen)
		}
	}
}

// P25.3: there is no ErrBig, however long the numbers and the images are.
func TestKeepsLong(t *testing.T) {
	r := rand.New(rand.NewSource(2590))
	long := func() num { return real(ratio(full(r, api.MaxWhole), full(r, api.MaxWhole))) }
	some := []chart{
		{long(), long(), in(0, 0), in(1, 0), false}, {long(), long().neg(), in(1, 0), long(), false}, {long(), long(), in(1, 0), long(), false}, {long(), long().neg(), in(1, 0), long(), true}, {long(), long(), in(1, 0), long(), true},
		{real(ofInt(top())), in(2, 0), in(1, 0), real(under(top())), true}, {real(ofInt(top())), in(-1, 0), in(1, 0), real(under(top())), false}, {real(under(top())), real(ofInt(top())), in(0, 0), in(1, 0), false},
	}
	for _, m := range some {
		for _, x := range []chart{m, m.turned()} {
			wantKeeps(t, api.Upper, x, keptBy(api.Upper, x))
			wantKeeps(t, api.Round, x, keptBy(api.Round, x))
		}
	}
	seen := tally{}
	for bytes := 60; bytes <= 250; bytes += 23 {
		z := longPoint(r, api.Round, bytes)
		m := chart{in(1, 0), z.neg(), z.conj().neg(), in(1, 0), bytes%2 == 0}.formed()
		if !m.fits() {
			continue
		}
		seen["round"]++
		wantKeeps(t, api.Round, m, true)
		m.a = m.a.neg()
		wantKeeps(t, api.Round, m, keptBy(api.Round, m))
	}
	seen.least(t, 4, "round")
	// An image of the edge that is not short enough is asked for all the same.
	deep := chart{real(ofInt(top())), in(2, 0), in(1, 0), in(1, 0), false}
	if _, e := mob.At(deep.mob(), api.Point{Z: in(1, 0).gauss()}); e != api.ErrBig {
		t.Errorf("an image is not too big: %v", e)
	}
	wantKeeps(t, api.Upper, deep, true)
}

func TestKeepsOfTurnings(t *testing.T) { // P25.3, P25.8
	for _, p := range pictures() {
		for _, k := range append(straights(p), longStraights(p)...) {
			if m := k.over().formed(); m.fits() {
				wantKeeps(t, p, m, true)
			}
		}
		for _, k := range crooked(p) {
			if m := k.over().formed(); m.fits() {
				wantKeeps(t, p, m, false)
			}
		}
	}
}

func wantMove(t *testing.T, seen tally, p api.Picture, z, w num) {
	t.Helper()
	m := moveOf(p, z, w)
	got, e := plane.Move(p, z.gauss(), w.gauss())
	wantFit(t, seen, "Move from "+brief(z)+" to "+brief(w), got, e, m.mob(), m.fits())
	seen.when("a alone", !m.a.fits() && m.b.fits() && m.d.fits())
	seen.when("b alone", m.a.fits() && !m.b.fits() && m.d.fits())
	seen.when("to itself", z.same(w))
	if e == api.OK && z.same(w) {
		want(t, "Move from "+brief(z)+" to itself", got, e, mob.One())
	}
}

func TestMove(t *testing.T) { // P25.3
	for _, p := range pictures() {
		seen := tally{}
		pairs(p, func(z, w num) {
			wantMove(t, seen, p, z, w)
			if !lengthy(z, w) {
				wantMove(t, seen, p, w, z)
			}
		})
		seen.least(t, 40, "fits", "too big", "to itself")
		if p == api.Upper {
			seen.least(t, 5, "a alone", "b alone")
		}
	}
}

func TestMoveAtTheBound(t *testing.T) { // P25.3
	seen := tally{}
	for _, add := range []int64{-2, -1, 0, 1} {
		n := more(half(), add)
		over := ofInt(new(big.Int).Mul(n, half())) // at the bound, or past it
		for _, x := range [][2]num{
			{{none(), under(n)}, {none(), ofInt(half())}}, // a alone
			{{none(), ofInt(half())}, {none(), under(n)}},
			{{ofInt(n), one()}, {none(), ofInt(half())}}, // b alone
			{{opposite(ofInt(n)), under(half())}, {one(), one()}},
		} {
			wantMove(t, seen, api.Upper, x[0], x[1])
		}
		if upTo(over) != (add < 0) {
			t.Fatal("these are not the bound")
		}
		// From 0 and to 0 only the one point tells: 1 / z, or -1 / z.
		z := num{under(n), none()}
		wantMove(t, seen, api.Round, in(0, 0), z)
		wantMove(t, seen, api.Round, z, in(0, 0))
		// Its conjugate below 1 has a norm that is too long, or just not.
		z = num{under(n), under(half())}
		wantMove(t, seen, api.Round, in(0, 0), z)
		wantMove(t, seen, api.Round, z, in(0, 0))
		z = num{ratio(more(n, -1), n), under(n)}
		wantMove(t, seen, api.Round, z, in(0, 0))
		wantMove(t, seen, api.Round, z, z.neg())
	}
	seen.least(t, 2, "fits", "too big", "a alone", "b alone")
}
