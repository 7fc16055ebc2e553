package cross_test

import (
	"math/big"
	"math/rand"
	"testing"

	"tracery/api"
	"tracery/cross"
	"tracery/mob"
)

// ratio, and its like below, hand a row on point by point.
func ratio(l [4]api.Point) (api.Point, api.Errno) { return cross.Ratio(l[0], l[1], l[2], l[3]) }

func wantRatio(t *testing.T, l four) {
	t.Helper()
	got, e := ratio(l.points())
	if l.threeSame() {
		wantNone(t, "the ratio of"+briefs(pick(l)...), got, e, api.ErrSame)
		return
	}
	wantPoint(t, "the ratio of"+briefs(pick(l)...), got, e, l.ratio())
}

func pick(l four) []api.Point {
	p := l.points()
	return p[:]
}

func TestRatio(t *testing.T) { // P10.1
	rows(func(l four) { wantRatio(t, l) })
}

func TestRatioExamples(t *testing.T) { // P10.1
	third := at(real(big.NewRat(-1, 3)))
	for _, x := range []struct {
		l    four
		want spot
	}{
		{four{on(0, 0), on(1, 0), on(2, 0), on(3, 0)}, third}, {four{far(), on(0, 0), on(1, 0), on(2, 0)}, on(-1, 0)},
		{four{on(0, 0), on(1, 0), on(1, 0), on(2, 0)}, far()}, {four{on(0, 0), on(0, 0), on(1, 0), on(2, 0)}, on(0, 0)},
		{four{on(0, 0), on(1, 0), on(1, 1), on(0, 1)}, on(-1, 0)},
		{four{on(0, 0), on(1, 0), on(0, 0), on(2, 0)}, on(1, 0)}, {four{on(0, 0), on(1, 0), on(2, 0), on(0, 0)}, far()},
		{four{far(), far(), on(1, 0), on(2, 0)}, on(0, 0)}, {four{far(), on(1, 0), far(), on(2, 0)}, on(1, 0)},
		{four{far(), on(1, 0), on(2, 0), far()}, far()}, {four{on(1, 0), far(), far(), on(2, 0)}, far()},
		{four{on(1, 0), far(), on(2, 0), far()}, on(1, 0)}, {four{on(1, 0), on(2, 0), far(), far()}, on(0, 0)},
		{four{far(), far(), on(1, 0), on(1, 0)}, on(0, 0)}, {four{far(), on(1, 0), on(1, 0), far()}, far()}, {four{far(), on(1, 0), far(), on(1, 0)}, on(1, 0)},
	} {
		got, e := ratio(x.l.points())
		wantPoint(t, "the ratio of"+briefs(pick(x.l)...), got, e, x.want)
	}
}

func TestRatioRefusesThreeThatAreTheSame(t *testing.T) { // P10.1
	r := rand.New(rand.NewSource(101))
	others := append(near0(), at(fullNum(r, api.MaxWhole)), at(fullNum(r, api.MaxWhole)))
	for _, p := range others {
		for _, q := range others {
			for k := range 4 {
				l := four{p, p, p, p}
				l[k] = q
				got, e := ratio(l.points())
				wantNone(t, "the ratio of three that are the same", got, e, api.ErrSame)
			}
		}
	}
}

func TestRatioRefusesWrongOnes(t *testing.T) { // P10.1
	withWrong(func(l [4]api.Point) {
		got, e := ratio(l)
		wantNone(t, "the ratio of a wrong one", got, e, api.ErrArg)
	})
}

func TestRatioAtTheBound(t *testing.T) { // P10.1
	brink(func(l four) { wantRatio(t, l) })
	// Of infinity, 0, 1, d it is 1 less d; of infinity, 2, 0, d half of d; of 0,
	// infinity, 2 d, d it is a half of 1, turned over.
	bad, good := api.ErrBig, api.OK
	most, least := ofInt(top()), opposite(ofInt(top()))
	for _, x := range []struct {
		l    four
		want api.Errno
	}{
		{four{far(), on(1, 0), on(0, 0), at(real(most))}, good}, {four{far(), on(1, 0), on(0, 0), at(num{none(), least})}, good},
		{four{far(), on(0, 0), on(1, 0), at(real(most))}, good}, {four{far(), on(0, 0), on(1, 0), at(real(least))}, bad},
		{four{far(), on(0, 0), on(0, 1), at(num{none(), most})}, good}, {four{far(), on(0, 0), on(0, 1), at(num{none(), least})}, bad},
		{four{far(), on(2, 0), on(0, 0), at(real(under(edge())))}, bad}, {four{far(), on(2, 0), on(0, 0), at(num{big.NewRat(2, 1), under(edge())})}, bad},
		{four{far(), on(0, 2), on(0, 0), at(num{big.NewRat(2, 1), under(edge())})}, bad}, {four{far(), on(1, 0), on(0, 0), at(real(under(edge())))}, good},
		{four{far(), at(real(big.NewRat(1, 2))), on(0, 0), at(real(ofInt(edge())))}, bad}, {four{on(0, 0), far(), at(real(most)), on(1, 0)}, good},
		{four{on(0, 0), far(), at(real(least)), on(1, 0)}, bad}, {four{on(0, 0), at(real(most)), far(), on(1, 0)}, good},
		{four{on(0, 0), at(real(ofInt(edge()))), far(), at(real(big.NewRat(1, 2)))}, bad}, {four{on(0, 0), on(1, 0), on(2, 0), at(real(ofInt(edge())))}, good},
	} {
		if _, e := ratio(x.l.points()); e != x.want {
			t.Errorf("the ratio of%s: %v, want %v", briefs(pick(x.l)...), e, x.want)
		}
		wantRatio(t, x.l)
	}
}

// What is long on the way alone is not refused.
func TestRatioLongOnTheWay(t *testing.T) { // P10.1
	longOnTheWay(func(l four, short four) {
		got, e := ratio(l.points())
		wantPoint(t, "a short ratio of long points", got, e, short.ratio())
	})
}

// longOnTheWay goes over rows of long points, images by maps that do not turn,
// and the rows of short points whose images they are.
func longOnTheWay(do func(l four, short four)) {
	r := rand.New(rand.NewSource(102))
	shorts := []four{
		{on(0, 0), on(1, 0), on(2, 0), on(3, 0)}, {on(1, 0), on(0, 1), on(-1, 0), on(0, -1)}, {on(0, 0), on(1, 2), on(2, -1), on(0, 3)},
		{on(1, 0), far(), on(0, 2), on(-1, 1)}, {on(1, 0), on(1, 0), on(0, 2), on(-1, 1)}, {on(1, 0), on(2, 2), on(2, 2), far()}, {on(5, 0), on(2, 2), on(5, 0), on(2, 2)},
	}
	for _, short := range shorts {
		for range 4 {
			for _, m := range []chart{
				{a: fullNum(r, 100), b: fullNum(r, 100), c: in(1, 0), d: fullNum(r, 50)},
				{a: fullNum(r, 200), b: fullNum(r, 300), c: in(0, 0), d: in(1, 0)},
			} {
				if l := m.images(short); l.fits() {
					do(l, short)
				} else {
					panic("the images are too long")
				}
			}
		}
	}
}

func wantFourth(t *testing.T, l [3]spot, by spot) {
	t.Helper()
	got, e := cross.Fourth(l[0].point(), l[1].point(), l[2].point(), by.point())
	what := "the fourth of" + briefs(l[0].point(), l[1].point(), l[2].point(), by.point())
	if twins(l) {
		wantNone(t, what, got, e, api.ErrSame)
		return
	}
	wantPoint(t, what, got, e, fourth(l, by))
	if e == api.OK && !(four{l[0], l[1], l[2], spotOf(got)}).ratio().same(by) {
		t.Fatalf("%s has another ratio", what)
	}
}

func TestFourth(t *testing.T) { // P10.2
	rows(func(l four) { wantFourth(t, [3]spot{l[0], l[1], l[2]}, l[3]) })
}

func TestFourthExamples(t *testing.T) { // P10.2
	zero, one, two := on(0, 0), on(1, 0), on(2, 0)
	for _, x := range []struct {
		l    four
		want spot
	}{
		{four{zero, one, far(), two}, at(real(big.NewRat(1, 2)))}, {four{zero, one, far(), far()}, zero}, {four{zero, one, far(), zero}, far()},
		{four{zero, one, two, one}, one}, {four{zero, one, two, zero}, two}, {four{zero, one, two, far()}, zero}, {four{far(), one, zero, on(3, 4)}, on(3, 4)},
		{four{zero, one, on(1, 1), on(-1, 0)}, on(0, 1)},
	} {
		got, e := cross.Fourth(x.l[0].point(), x.l[1].point(), x.l[2].point(), x.l[3].point())
		wantPoint(t, "the fourth of"+briefs(pick(x.l)...), got, e, x.want)
	}
	got, e := cross.Fourth(zero.point(), zero.point(), one.point(), on(5, 0).point())
	wantNone(t, "the fourth of 0, 0, 1", got, e, api.ErrSame)
}

// threes goes over threes of which two or all are the same.
func threes(do func(l [3]api.Point)) {
	r := rand.New(rand.NewSource(103))
	for _, p := range append(near0(), at(fullNum(r, api.MaxWhole))) {
		for _, q := range append(near0(), at(fullNum(r, api.MaxWhole))) {
			for k := range 3 {
				l := [3]api.Point{p.point(), p.point(), p.point()}
				l[k] = q.point()
				do(l)
			}
		}
	}
}

func TestFourthRefusesTwoThatAreTheSame(t *testing.T) { // P10.2
	threes(func(l [3]api.Point) {
		for _, by := range []spot{on(5, 0), far(), on(0, 0), on(1, 0), spotOf(l[0]), at(num{ofInt(top()), under(top())})} {
			got, e := cross.Fourth(l[0], l[1], l[2], by.point())
			wantNone(t, "the fourth of two that are the same", got, e, api.ErrSame)
		}
	})
}

func TestFourthRefusesWrongOnes(t *testing.T) { // P10.2
	withWrong(func(l [4]api.Point) {
		got, e := cross.Fourth(l[0], l[1], l[2], l[3])
		wantNone(t, "the fourth of a wrong one", got, e, api.ErrArg)
	})
	for _, p := range wrong() {
		threes(func(l [3]api.Point) {
			if got, e := cross.Fourth(l[0], l[1], l[2], p); got != (api.Point{}) || e != api.ErrArg {
				t.Fatalf("the fourth of a wrong ratio and two that are the same: %s, %v", brief(got), e)
			}
		})
	}
}

func TestFourthAtTheBound(t *testing.T) { // P10.2
	brink(func(l four) { wantFourth(t, [3]spot{l[0], l[1], l[2]}, l[3]) })
	zero, one, half := on(0, 0), on(1, 0), at(real(big.NewRat(1, 2)))
	for _, x := range []struct {
		l    four // from infinity, b, 0 and r it is b r, from infinity, 0, 1 and r 1 less r, from 0, infinity, c and r c / (1 - r)
		want api.Errno
	}{
		{four{far(), one, zero, at(num{ofInt(top()), under(top())})}, api.OK}, {four{far(), on(2, 0), zero, at(real(ofInt(edge())))}, api.ErrBig},
		{four{far(), on(0, 2), zero, at(real(ofInt(edge())))}, api.ErrBig}, {four{far(), half, zero, at(real(under(edge())))}, api.ErrBig},
		{four{far(), on(2, 0), zero, at(real(under(edge())))}, api.OK}, {four{far(), zero, one, at(real(ofInt(top())))}, api.OK},
		{four{far(), zero, one, at(real(opposite(ofInt(top()))))}, api.ErrBig}, {four{zero, far(), at(real(ofInt(top()))), at(real(opposite(ofInt(top()))))}, api.ErrBig},
		{four{zero, far(), at(real(ofInt(top()))), at(real(ofInt(top())))}, api.OK},
		// Where the ratio is 0, 1 or infinity nothing can be too big.
		{four{at(real(ofInt(top()))), at(real(ofInt(edge()))), at(num{none(), ofInt(top())}), zero}, api.OK},
		{four{at(real(ofInt(top()))), at(real(ofInt(edge()))), at(num{none(), ofInt(top())}), one}, api.OK},
		{four{at(real(ofInt(top()))), at(real(ofInt(edge()))), at(num{none(), ofInt(top())}), far()}, api.OK},
	} {
		if _, e := cross.Fourth(x.l[0].point(), x.l[1].point(), x.l[2].point(), x.l[3].point()); e != x.want {
			t.Errorf("the fourth of%s: %v, want %v", briefs(pick(x.l)...), e, x.want)
		}
		wantFourth(t, [3]spot{x.l[0], x.l[1], x.l[2]}, x.l[3])
	}
	r := rand.New(rand.NewSource(104))
	l := fullFour(r, api.MaxWhole)
	for k, by := range []spot{on(0, 0), on(1, 0), far()} {
		got, e := cross.Fourth(l[0].point(), l[1].point(), l[2].point(), by.point())
		wantPoint(t, "one of three that are as long as may be", got, e, l[2-k])
	}
}

func TestFourthLongOnTheWay(t *testing.T) { // P10.2
	longOnTheWay(func(l four, short four) {
		if short.unlike() {
			got, e := cross.Fourth(l[0].point(), l[1].point(), l[2].point(), short.ratio().point())
			wantPoint(t, "the fourth of long points", got, e, l[3])
		}
	})
}

func wantChart(t *testing.T, l [3]spot) {
	t.Helper()
	m, e := cross.Chart(l[0].point(), l[1].point(), l[2].point())
	what := "the chart of" + briefs(l[0].point(), l[1].point(), l[2].point())
	if twins(l) {
		wantNoMap(t, what, m, e, api.ErrSame)
		return
	}
	wanted := charted(l).formed()
	if !wanted.fits() {
		wantNoMap(t, what, m, e, api.ErrBig)
		return
	}
	if m != wanted.mob() || e != api.OK {
		t.Fatalf("%s is not as it must be: %v", what, e)
	}
}

func wantNoMap(t *testing.T, what string, m api.Mob, e, wanted api.Errno) {
	t.Helper()
	if m != (api.Mob{}) || e != wanted {
		t.Fatalf("%s: %v, want nothing and %v", what, e, wanted)
	}
}

func TestChart(t *testing.T) { // P10.3
	rows(func(l four) {
		three := [3]spot{l[0], l[1], l[2]}
		wantChart(t, three)
		if m, e := cross.Chart(l[0].point(), l[1].point(), l[2].point()); e == api.OK {
			got, e := mob.At(m, l[3].point())
			wantPoint(t, "what a chart tells", got, e, l.ratio())
		}
	})
	if m, e := cross.Chart(far().point(), on(1, 0).point(), on(0, 0).point()); m != mob.One() || e != api.OK {
		t.Errorf("the chart of infinity, 1, 0: %v, %v", m, e)
	}
}

func TestChartRefusesTwoThatAreTheSame(t *testing.T) { // P10.3
	threes(func(l [3]api.Point) {
		m, e := cross.Chart(l[0], l[1], l[2])
		wantNoMap(t, "a chart of two that are the same", m, e, api.ErrSame)
	})
}

func TestChartRefusesWrongOnes(t *testing.T) { // P10.3
	withWrongThree(func(l [3]api.Point) {
		m, e := cross.Chart(l[0], l[1], l[2])
		wantNoMap(t, "a chart of a wrong one", m, e, api.ErrArg)
	})
}

// withWrongThree goes over threes of which one point or more may not be.
func withWrongThree(do func(l [3]api.Point)) {
	for _, p := range wrong() {
		for k := range 3 {
			for _, l := range [][3]spot{{on(0, 0), on(1, 1), far()}, {on(2, 0), on(2, 0), on(2, 0)}, {far(), far(), far()}} {
				row := [3]api.Point{l[0].point(), l[1].point(), l[2].point()}
				row[k] = p
				do(row)
				row[(k+1)%3] = p
				do(row)
			}
		}
		do([3]api.Point{p, p, p})
	}
}

func TestChartAtTheBound(t *testing.T) { // P10.3
	brink(func(l four) { wantChart(t, [3]spot{l[0], l[1], l[2]}) })
	for _, x := range []struct {
		l    [3]spot // of infinity, b, 0 it is z / b
		want api.Errno
	}{
		{[3]spot{far(), at(real(ofInt(top()))), on(0, 0)}, api.OK}, {[3]spot{far(), at(real(under(top()))), on(0, 0)}, api.OK},
		{[3]spot{far(), at(real(ofInt(top()))), on(-1, 0)}, api.ErrBig}, {[3]spot{far(), at(real(ofInt(top()))), on(1, 0)}, api.OK},
		{[3]spot{far(), at(num{none(), ofInt(top())}), on(0, -1)}, api.ErrBig}, {[3]spot{at(real(ofInt(top()))), far(), on(0, 1)}, api.OK},
	} {
		if _, e := cross.Chart(x.l[0].point(), x.l[1].point(), x.l[2].point()); e != x.want {
			t.Errorf("the chart of%s: %v, want %v", briefs(x.l[0].point(), x.l[1].point(), x.l[2].point()), e, x.want)
		}
		wantChart(t, x.l)
	}
}

func TestHarmonic(t *testing.T) { // P10.5
	rows(func(l four) {
		got, e := cross.Harmonic(l[0].point(), l[1].point(), l[2].point())
		if twins([3]spot{l[0], l[1], l[2]}) {
			wantNone(t, "what is harmonic to two that are the same", got, e, api.ErrSame)
			return
		}
		wantPoint(t, "what is harmonic to"+briefs(pick(l)[:3]...), got, e, fourth([3]spot{l[0], l[1], l[2]}, on(-1, 0)))
	})
	for _, x := range []struct{ a, b, c, want spot }{
		{on(0, 0), on(1, 0), on(2, 0), far()}, {on(0, 0), on(1, 0), on(1, 1), on(0, 1)}, {far(), on(0, 0), on(1, 0), on(2, 0)},
		{on(1, 0), far(), on(-1, 0), on(0, 0)}, {on(1, 0), on(0, 0), on(-1, 0), far()}, {on(0, 0), on(1, 0), far(), on(-1, 0)},
	} {
		got, e := cross.Harmonic(x.a.point(), x.b.point(), x.c.point())
		wantPoint(t, "what is harmonic to"+briefs(x.a.point(), x.b.point(), x.c.point()), got, e, x.want)
	}
}

func TestHarmonicRefuses(t *testing.T) { // P10.5
	threes(func(l [3]api.Point) {
		got, e := cross.Harmonic(l[0], l[1], l[2])
		wantNone(t, "what is harmonic to two that are the same", got, e, api.ErrSame)
	})
	withWrongThree(func(l [3]api.Point) {
		got, e := cross.Harmonic(l[0], l[1], l[2])
		wantNone(t, "what is harmonic to a wrong one", got, e, api.ErrArg)
	})
}

func TestHarmonicAtTheBound(t *testing.T) { // P10.5
	brink(func(l four) {
		got, e := cross.Harmonic(l[0].point(), l[1].point(), l[2].point())
		wantPoint(t, "what is harmonic to long ones", got, e, fourth([3]spot{l[0], l[1], l[2]}, on(-1, 0)))
	})
	// To infinity, b, c it is twice c less b.
	for _, x := range []struct {
		b, c spot
		want api.Errno
	}{
		{on(0, 0), at(real(ofInt(edge()))), api.ErrBig}, {on(1, 0), at(real(ofInt(edge()))), api.OK}, {on(0, 1), at(num{none(), ofInt(edge())}), api.OK},
		{on(1, 0), at(num{none(), ofInt(edge())}), api.ErrBig}, {on(0, 0), at(real(under(edge()))), api.OK},
	} {
		got, e := cross.Harmonic(far().point(), x.b.point(), x.c.point())
		if e != x.want {
			t.Errorf("what is harmonic to infinity,%s: %v, want %v", briefs(x.b.point(), x.c.point()), e, x.want)
		}
		wantPoint(t, "what is harmonic to infinity and two", got, e, fourth([3]spot{far(), x.b, x.c}, on(-1, 0)))
	}
}
