package fixed_test

import (
	"math/big"
	"math/rand"
	"testing"

	"tracery/api"
	"tracery/fixed"
	"tracery/mob"
)

// wantStaying holds a map of short numbers against the chapter's words.
func wantStaying(t *testing.T, m chart) string {
	t.Helper()
	got, e := fixed.Points(m.mob())
	what := "the points of " + briefMap(m)
	wanted, wrong := m.staying(t)
	switch {
	case wrong == api.ErrNone:
		wantNoList(t, what, got, e, wrong)
		return "ErrNone"
	case wrong != api.OK:
		wantNoList(t, what, got, e, wrong)
		return "ErrMoved"
	}
	wantPoints(t, what, got, e, wanted...)
	return []string{"", "one", "two"}[len(wanted)]
}

// ordered tells in which order both points of spun are told, and what then is
// the factor.
func ordered(p spot, q, k num) ([]spot, num) {
	if p.inf || p.z.minus(q).leads() {
		return []spot{p, at(q)}, k
	}
	return []spot{at(q), p}, k.inverse()
}

func TestPointsExamples(t *testing.T) { // P15.2
	half := rat(1, 2)
	for _, x := range []struct {
		m    chart
		want []spot
	}{
		{slide(in(1, 0)), []spot{far()}},
		{swap(), []spot{on(0, 1), on(0, -1)}},
		{stretch(in(2, 0)), []spot{far(), on(0, 0)}},
		{slide(in(0, -3)), []spot{far()}},
		{chart{a: in(2, 0), b: in(3, 0), c: in(0, 0), d: in(1, 0)}, []spot{far(), on(-3, 0)}},
		{chart{a: in(0, 1), b: in(1, 0), c: in(0, 0), d: in(1, 0)}, []spot{far(), at(num{half, half})}},
		{charted(3, -1, 1, 1), []spot{on(1, 0)}},
		{charted(0, 1, 1, 0), []spot{on(1, 0), on(-1, 0)}},
		{charted(0, 4, 1, 0), []spot{on(2, 0), on(-2, 0)}},
		{charted(5, 0, 1, 2), []spot{on(3, 0), on(0, 0)}},
		{charted(2, 0, 1, 5), []spot{on(0, 0), on(-3, 0)}},
		{curved(in(0, 0), in(0, 2), in(0, 0)), []spot{on(1, 1), on(-1, -1)}},
		{curved(in(0, 0), in(0, -2), in(0, 0)), []spot{on(1, -1), on(-1, 1)}},
		{curved(in(0, 0), in(-3, 4), in(0, 0)), []spot{on(1, 2), on(-1, -2)}},
		{curved(in(0, 0), in(-3, -4), in(0, 0)), []spot{on(1, -2), on(-1, 2)}},
		{curved(in(1, 0), in(0, 0), in(0, 1)), []spot{on(1, -1), on(0, 0)}},
		{curved(in(0, 2), in(1, 0), in(0, 0)), []spot{on(0, 1)}},
	} {
		got, e := fixed.Points(x.m.mob())
		wantPoints(t, "the points of "+briefMap(x.m), got, e, x.want...)
	}
	for _, m := range []chart{third(), sixth(), charted(0, 2, 1, 0), charted(0, -2, 1, 0), charted(2, 1, 1, 1), curved(in(0, 0), in(0, 1), in(0, 0)), curved(in(0, 0), in(1, 1), in(0, 0)), curved(in(0, 0), flat(rat(1, 2)), in(0, 0))} {
		got, e := fixed.Points(m.mob())
		wantNoList(t, "the points of "+briefMap(m), got, e, api.ErrNone)
	}
	for _, m := range []chart{still(), bar(), swap().turned(), slide(in(1, 0)).turned(), third().turned()} {
		got, e := fixed.Points(m.mob())
		wantNoList(t, "the points of "+briefMap(m), got, e, api.ErrMoved)
	}
}

func TestPointsMany(t *testing.T) { // P15.2
	seen := tally{}
	for _, m := range grains() {
		seen[wantStaying(t, m)]++
		wantStaying(t, m.turned())
	}
	seen.least(t, 20, "ErrNone", "one", "two")
	seen.least(t, 1, "ErrMoved")
	r := rand.New(rand.NewSource(1520))
	for range 300 {
		wantStaying(t, oddMap(r, 5))
	}
}

// What a map is made of tells which points stay, without a root.
func TestPointsAsMade(t *testing.T) { // P15.2
	r := rand.New(rand.NewSource(1521))
	seen := tally{}
	for range 800 {
		p, q, k, b := oddSpot(r, 4), oddNum(r, 4), oddNum(r, 3), oddNum(r, 3)
		if b.zero() || k.zero() || k.same(in(1, 0)) || p.same(at(q)) {
			continue
		}
		both, _ := ordered(p, q, k)
		got, e := fixed.Points(spun(p, q, k).mob())
		wantPoints(t, "the two points", got, e, both...)
		got, e = fixed.Points(pushed(p, b).mob())
		wantPoints(t, "the one point", got, e, p)
		switch {
		case p.inf:
			seen["infinity"]++
		case both[0].same(p):
			seen["first"]++
		default:
			seen["second"]++
		}
	}
	seen.least(t, 30, "infinity", "first", "second")
}

// crossed are two points as long as they may be, both products short, so that the
// map may be; r is longer than may be.
func crossed(bytes uint) (p, q num) {
	b, c := twos(8*bytes-1), more(twos(8*bytes-1), 1)
	x := new(big.Rat).SetFrac(c, b)
	return flat(x), flat(new(big.Rat).Inv(x))
}

func TestPointsAtTheBound(t *testing.T) { // P15.2
	most, unit, two := flat(ofInt(top())), in(1, 0), in(2, 0)
	least := flat(under(top()))
	p, q := crossed(600)
	if p.minus(q).fits() {
		t.Fatal("the root is short")
	}
	line := func(a, b num) chart { return chart{a: a, b: b, c: in(0, 0), d: unit} }
	wide := flat(ofInt(more(top(), -1)))
	seen := tally{}
	for _, x := range []struct {
		m    chart
		want []spot
	}{
		// The root itself may be too long.
		{curved(p.plus(unit), in(-1, 0), unit.minus(q)), []spot{at(p), at(q)}},
		{curved(p.neg().plus(unit), in(-1, 0), unit.plus(q)), []spot{at(q.neg()), at(p.neg())}},
		{line(two, most), []spot{far(), at(most.neg())}},
		{line(flat(rat(1, 2)), most), []spot{far(), at(most.scaled(rat(2, 1)))}},
		{line(flat(rat(1, 2)), num{none(), ofInt(twos(8191))}), []spot{far(), at(num{none(), ofInt(past())})}},
		{line(in(3, 0), least), []spot{far(), at(least.scaled(rat(-1, 2)))}},
		{line(two, least), []spot{far(), at(least.neg())}},
		{line(most, most), []spot{far(), at(most.over(unit.minus(most)))}},
		{slide(num{ofInt(top()), under(top())}), []spot{far()}},
		{curved(wide, in(0, 0), in(-1, 0)), []spot{at(most), on(0, 0)}},
		{curved(most, in(0, 0), in(-1, 0)), []spot{at(flat(ofInt(past()))), on(0, 0)}},
		{curved(wide.neg(), in(0, 0), unit), []spot{on(0, 0), at(most.neg())}},
		{curved(most.neg(), in(0, 0), unit), []spot{on(0, 0), at(flat(opposite(ofInt(past()))))}},
		{curved(num{none(), ofInt(top())}, in(0, 0), in(0, -1)), []spot{at(num{none(), ofInt(past())}), on(0, 0)}},
		{curved(most, in(-1, 0), flat(ofInt(more(top(), -2)))), []spot{on(1, 0)}},
		{curved(flat(ofInt(root())), flat(opposite(ofInt(twos(8190)))), in(0, 0)), []spot{at(flat(ofInt(twos(4095))))}},
	} {
		if !x.m.fits() || x.m.det().zero() {
			t.Fatalf("%s may not be", briefMap(x.m))
		}
		got, e := fixed.Points(x.m.mob())
		wantPoints(t, "the points of "+briefMap(x.m), got, e, x.want...)
		if e == api.OK {
			seen["fits"]++
		} else {
			seen["too big"]++
		}
	}
	seen.least(t, 4, "fits", "too big")
}

func TestPointsRefuse(t *testing.T) { // P15.2: ErrArg, ErrMoved, ErrNone, ErrBig, in this order
	for _, m := range wrongMaps() {
		got, e := fixed.Points(m)
		wantNoList(t, "the points of what may not be", got, e, api.ErrArg)
	}
	most := flat(ofInt(top()))
	for _, m := range append(longs(), chart{a: flat(rat(1, 2)), b: most, c: in(0, 0), d: in(1, 0)}, curved(most, in(0, 0), in(-1, 0))) {
		got, e := fixed.Points(m.turned().mob())
		wantNoList(t, "the points of what turns", got, e, api.ErrMoved)
	}
	for _, m := range longs() {
		if !m.c.zero() { // there is no root, and if there were one the points would be too long
			got, e := fixed.Points(m.mob())
			wantNoList(t, "the points of "+briefMap(m), got, e, api.ErrNone)
		}
	}
	for _, b := range []num{in(1, 0), in(0, 1), in(-2, 0)} {
		got, e := fixed.Points(curved(most, b, most.neg()).mob())
		wantNoList(t, "the points of what has no root", got, e, api.ErrNone)
	}
}

// A square one off is no square, however long.
func TestPointsBesideASquare(t *testing.T) { // P15.2
	for _, n := range []*big.Int{big.NewInt(3), twos(60), more(twos(1000), 7), more(twos(4090), -1)} {
		x := num{ofInt(n), rat(2, 1)}
		got, e := fixed.Points(curved(in(0, 0), x.times(x), in(0, 0)).mob())
		wantPoints(t, "both roots", got, e, at(x), at(x.neg()))
		for _, bit := range []num{in(-1, 0), in(0, 1), in(-1, -1), flat(rat(-1, 9))} {
			got, e := fixed.Points(curved(in(0, 0), x.times(x).plus(bit), in(0, 0)).mob())
			wantNoList(t, "no roots", got, e, api.ErrNone)
		}
		got, e = fixed.Points(curved(in(0, 0), x.times(x).neg(), in(0, 0)).mob())
		turned := x.times(in(0, 1)) // i x, or -i x
		if !turned.leads() {
			turned = turned.neg()
		}
		wantPoints(t, "both roots, turned", got, e, at(turned), at(turned.neg()))
		got, e = fixed.Points(curved(in(0, 0), x.times(x).scaled(rat(2, 3)), in(0, 0)).mob())
		wantNoList(t, "no roots", got, e, api.ErrNone)
	}
}

func TestPointsAreNew(t *testing.T) { // P15.2
	for _, m := range []chart{slide(in(1, 0)), swap(), stretch(in(2, 0)), charted(3, -1, 1, 1)} {
		first := must[[]api.Point](t)(fixed.Points(m.mob()))
		second := must[[]api.Point](t)(fixed.Points(m.mob()))
		for k := range first[:cap(first)] {
			first[:cap(first)][k] = api.Point{}
		}
		wanted, _ := m.staying(t)
		wantPoints(t, "the points told first", second, api.OK, wanted...)
		third := must[[]api.Point](t)(fixed.Points(m.mob()))
		wantPoints(t, "the points told then", third, api.OK, wanted...)
	}
}

func wantStays(t *testing.T, m chart, p spot) string {
	t.Helper()
	got, e := fixed.Stays(m.mob(), p.point())
	wantIs(t, briefMap(m)+" leaves"+briefPoints(pointsOf([]spot{p})), got, e, m.at(p).same(p))
	if got {
		return "stays"
	}
	return "moves"
}

func TestStays(t *testing.T) { // P15.4
	seen := tally{}
	for n, m := range grains() {
		for k, p := range spots() {
			if (n+k)%3 == 0 {
				seen[wantStays(t, m, p)]++
				seen["turned: "+wantStays(t, m.turned(), p)]++
			}
		}
	}
	seen.least(t, 100, "stays", "moves", "turned: stays", "turned: moves")
}

func TestStaysExamples(t *testing.T) { // P15.4
	for _, x := range []struct {
		m    chart
		p    spot
		want bool
	}{
		{swap(), on(0, 1), true}, {swap(), on(0, -1), true}, {swap(), on(0, 0), false}, {swap(), far(), false},
		{slide(in(1, 0)), far(), true}, {slide(in(1, 0)), on(3, 0), false}, {still(), far(), true}, {still(), on(7, 1), true},
		{bar(), on(5, 0), true}, {bar(), on(0, 5), false}, {bar(), far(), true}, {charted(0, 1, 1, 0).turned(), at(num{rat(3, 5), rat(4, 5)}), true},
		{charted(0, 1, 1, 0).turned(), far(), false}, {swap().turned(), on(0, 1), false}, {swap().turned(), on(1, 0), false},
	} {
		got, e := fixed.Stays(x.m.mob(), x.p.point())
		wantIs(t, briefMap(x.m), got, e, x.want)
	}
}

func TestStaysHoweverLong(t *testing.T) { // P15.4: no ErrBig
	r := rand.New(rand.NewSource(1522))
	most := flat(ofInt(top()))
	p, q := crossed(1000)
	both := curved(p.plus(in(1, 0)), in(-1, 0), in(1, 0).minus(q))
	points := []spot{at(most), far(), on(0, 0), at(fullNum(r, api.MaxWhole)), at(p), at(q), at(p.neg()), at(flat(under(top())))}
	for _, m := range append(longs(), both, bar(), still(), stretch(in(-1, 0)), curved(flat(ofInt(more(top(), -1))), in(0, 0), in(-1, 0))) {
		for _, x := range points {
			wantStays(t, m, x)
			wantStays(t, m.turned(), x)
		}
	}
	for _, x := range []spot{at(p), at(q)} {
		if wantStays(t, both, x) != "stays" {
			t.Error("what stays does not")
		}
	}
	if _, e := mob.At(stretch(most).mob(), at(most).point()); e != api.ErrBig {
		t.Error("no image is too big")
	}
	got, e := fixed.Stays(stretch(most).mob(), at(most).point())
	wantIs(t, "an image that is too big", got, e, false)
}

func TestStaysRefuses(t *testing.T) { // P15.4
	for _, m := range wrongMaps() {
		for _, p := range []api.Point{on(1, 0).point(), far().point(), {}} {
			got, e := fixed.Stays(m, p)
			wantNone(t, "by what may not be", got, e, api.ErrArg)
		}
	}
	for _, p := range wrongPoints() {
		for _, m := range []chart{still(), bar(), swap(), longs()[0], stretch(flat(ofInt(top())))} {
			got, e := fixed.Stays(m.mob(), p)
			wantNone(t, "what may not be", got, e, api.ErrArg)
		}
	}
}
