package cross_test

import (
	"math/rand"
	"slices"
	"testing"

	"tracery/api"
	"tracery/cross"
	"tracery/gauss"
	"tracery/mob"
	"tracery/sphere"
)

// ok is for calls that refuse nothing here.
func ok(t *testing.T) func(p api.Point, e api.Errno) api.Point {
	return func(p api.Point, e api.Errno) api.Point {
		t.Helper()
		if e != api.OK || !sphere.May(p) {
			t.Fatal(brief(p), e)
		}
		return p
	}
}

// told goes over some rows of which no three are the same.
func told(do func(l [4]api.Point)) {
	k := 0
	rows(func(l four) {
		if k++; k%2 == 0 && !l.threeSame() {
			do(l.points())
		}
	})
}

func TestMapsKeepRatios(t *testing.T) { // P10.8, P0.2
	is := ok(t)
	r := rand.New(rand.NewSource(1081))
	told(func(l [4]api.Point) {
		m := oddChart(r, 4).mob()
		images, e := mob.Images(m, l[:]...)
		if e != api.OK {
			t.Fatal(e)
		}
		wanted := is(ratio(l))
		if m.Turns {
			wanted = is(sphere.Conj(wanted))
		}
		if got := is(ratio([4]api.Point(images))); got != wanted {
			t.Fatalf("the ratio of%s, by a map, is %s, want %s", briefs(l[:]...), brief(got), brief(wanted))
		}
		one, turned, e := cross.Alike(l, [4]api.Point(images))
		if !m.Turns && !one || m.Turns && !turned || e != api.OK {
			t.Fatalf("alike are%s and their images: %v, %v, %v", briefs(l[:]...), one, turned, e)
		}
		before, _ := round(l)
		if after, e := round([4]api.Point(images)); after != before || e != api.OK {
			t.Fatalf("round are%s: %v, their images: %v, %v", briefs(l[:]...), before, after, e)
		}
	})
}

func TestRatioAndFourthLeadBack(t *testing.T) { // P10.8
	is := ok(t)
	rows(func(l four) {
		if twins([3]spot{l[0], l[1], l[2]}) {
			return
		}
		p := l.points()
		fourth := is(cross.Fourth(p[0], p[1], p[2], p[3]))
		if got := is(cross.Ratio(p[0], p[1], p[2], fourth)); got != p[3] {
			t.Fatalf("the ratio of a fourth of%s is %s", briefs(p[:]...), brief(got))
		}
		if got := is(cross.Fourth(p[0], p[1], p[2], is(ratio(p)))); got != p[3] {
			t.Fatalf("the fourth of a ratio of%s is %s", briefs(p[:]...), brief(got))
		}
		harmonic := is(cross.Harmonic(p[0], p[1], p[2]))
		if got := is(cross.Ratio(p[0], p[1], p[2], harmonic)); got != on(-1, 0).point() {
			t.Fatalf("the ratio of what is harmonic to%s is %s", briefs(p[:3]...), brief(got))
		}
		chart, e := cross.Chart(p[0], p[1], p[2])
		if e != api.OK || is(mob.At(chart, fourth)) != p[3] || is(mob.At(chart, p[3])) != is(ratio(p)) {
			t.Fatalf("the chart of%s tells other ratios, %v", briefs(p[:]...), e)
		}
		if is(mob.At(chart, p[2])) != on(0, 0).point() || is(mob.At(chart, p[1])) != on(1, 0).point() || is(mob.At(chart, p[0])) != far().point() || chart.Turns {
			t.Fatalf("the chart of%s", briefs(p[:3]...))
		}
	})
}

// from1 is 1 less a ratio, infinity of infinity.
func from1(p api.Point) api.Point {
	if p.Inf {
		return p
	}
	return at(in(1, 0).minus(numOf(p.Z))).point()
}

func TestOrders(t *testing.T) { // P10.8
	is := ok(t)
	told(func(l [4]api.Point) {
		a, b, c, d := l[0], l[1], l[2], l[3]
		first := is(cross.Ratio(a, b, c, d))
		if is(cross.Ratio(b, a, d, c)) != first || is(cross.Ratio(c, d, a, b)) != first || is(cross.Ratio(d, c, b, a)) != first {
			t.Fatalf("the ratio of%s changes with them two by two", briefs(l[:]...))
		}
		if is(cross.Ratio(b, c, d, a)) != is(sphere.Inverse(first)) {
			t.Fatalf("the ratio of%s, one on, is not 1 over it", briefs(l[:]...))
		}
		if is(cross.Ratio(a, c, b, d)) != from1(first) {
			t.Fatalf("the ratio of%s, the middle ones exchanged, is not 1 less it", briefs(l[:]...))
		}
	})
}

func TestSixAtMost(t *testing.T) { // P10.8
	is := ok(t)
	told(func(l [4]api.Point) {
		first := is(ratio(l))
		six := []api.Point{first, is(sphere.Inverse(first)), from1(first)}
		six = append(six, is(sphere.Inverse(from1(first))), from1(is(sphere.Inverse(first))), is(sphere.Inverse(from1(is(sphere.Inverse(first))))))
		wanted, e := sphere.Sort(six...)
		if e != api.OK {
			t.Fatal(e)
		}
		got, e := turns(l)
		if !slices.Equal(got, wanted) || e != api.OK {
			t.Fatalf("the turns of%s are%s, %v, want%s", briefs(l[:]...), briefs(got...), e, briefs(wanted...))
		}
		// Each one determines the others.
		for _, p := range got {
			again, e := cross.Turns(far().point(), on(1, 0).point(), on(0, 0).point(), p)
			if !slices.Equal(again, got) || e != api.OK {
				t.Fatalf("the turns of a ratio %s are%s, %v", brief(p), briefs(again...), e)
			}
		}
	})
}

func TestRoundGoesByTheRatio(t *testing.T) { // P10.9, P0.5
	is := ok(t)
	rows(func(l four) {
		if !l.unlike() {
			return
		}
		p := is(ratio(l.points()))
		if got, e := round(l.points()); got != gauss.Real(p.Z) || e != api.OK {
			t.Fatalf("round are%s: %v, %v, their ratio is %s", briefs(pick(l)...), got, e, brief(p))
		}
	})
}

// What is told does not hang on earlier calls.
func TestAgain(t *testing.T) { // P10.8
	is := ok(t)
	r := rand.New(rand.NewSource(1082))
	for range 50 {
		l, other := fullFour(r, 20).points(), fullReals(r, 20).points()
		first, kept := is(ratio(l)), l
		all, _ := turns(l)
		ratio(other)
		turns(other)
		cross.Alike(l, other)
		again, e := turns(l)
		if is(ratio(l)) != first || !slices.Equal(again, all) || e != api.OK || l != kept {
			t.Fatalf("the ratio of%s, again, is another one", briefs(l[:]...))
		}
	}
}
