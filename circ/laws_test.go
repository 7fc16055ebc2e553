package circ_test

import (
	"math/rand"
	"slices"
	"testing"

	"tracery/api"
	"tracery/circ"
	"tracery/cross"
	"tracery/frac"
	"tracery/gauss"
	"tracery/mob"
)

// must is for calls that refuse nothing here.
func must[T any](t *testing.T) func(x T, e api.Errno) T {
	return func(x T, e api.Errno) T {
		t.Helper()
		if e != api.OK {
			t.Fatal(e)
		}
		return x
	}
}

// unlikes goes over rows of three unlike points.
func unlikes(do func(l [3]api.Point)) {
	threes(func(p, q, r spot) {
		if !twins(p, q, r) {
			do([3]api.Point{p.point(), q.point(), r.point()})
		}
	})
}

func TestThroughDoesNotHangOnOrder(t *testing.T) { // P11.8
	is, holds := must[api.Circle](t), must[bool](t)
	unlikes(func(l [3]api.Point) {
		c := is(circ.Through(l[0], l[1], l[2]))
		for _, o := range [][3]int{{0, 2, 1}, {1, 0, 2}, {1, 2, 0}, {2, 0, 1}, {2, 1, 0}} {
			if is(circ.Through(l[o[0]], l[o[1]], l[o[2]])) != c {
				t.Fatalf("the circle through%s hangs on their order", briefs(l[:]...))
			}
		}
		if circ.Check(c) != api.OK || !holds(circ.On(c, l[:]...)) {
			t.Fatalf("not all of%s are on %s", briefs(l[:]...), brief(c))
		}
		for _, p := range l {
			if side, e := circ.Side(c, p); side != 0 || e != api.OK {
				t.Fatalf("%s is beside %s: %d, %v", briefPoint(p), brief(c), side, e)
			}
		}
	})
}

// pairs goes over some maps and circles.
func pairs(do func(m chart, k ring)) {
	r := rand.New(rand.NewSource(1180))
	for _, m := range charts() {
		for range 12 {
			do(m, oddRing(r, 3))
		}
		for _, k := range rings()[:15] {
			do(m, k)
		}
	}
}

func TestImagesKeepWhatIsOn(t *testing.T) { // P11.8, P0.2
	is, holds := must[api.Circle](t), must[bool](t)
	r := rand.New(rand.NewSource(1181))
	l := near0()
	for range 5 {
		l = append(l, oddSpot(r, 3))
	}
	met := 0
	check := func(m chart, c api.Circle, points ...spot) {
		t.Helper()
		image := is(circ.Image(m.mob(), c))
		for _, p := range points {
			before, after := holds(circ.On(c, p.point())), holds(circ.On(image, m.at(p).point()))
			if before != after {
				t.Fatalf("%s is on %s: %v, by %s: %v", briefPoint(p.point()), brief(c), before, briefMap(m.mob()), after)
			}
			if before {
				met++
			}
		}
	}
	pairs(func(m chart, k ring) { check(m, k.circle(), append(slices.Clone(l), m.pole())...) })
	k := 0
	unlikes(func(l [3]api.Point) {
		k++
		check(charts()[k%len(charts())], is(circ.Through(l[0], l[1], l[2])), spotOf(l[0]), spotOf(l[1]), spotOf(l[2]))
	})
	if met < 2000 {
		t.Errorf("just %d points were on their circle", met)
	}
}

// pole is the point that goes to infinity.
func (m chart) pole() spot {
	if m.c.zero() {
		return far()
	}
	w := m.d.over(m.c).neg()
	if m.turns {
		w = w.conj()
	}
	return at(w)
}

func TestImageOfThrough(t *testing.T) { // P11.8, P0.2
	is, maps := must[api.Circle](t), must[[]api.Point](t)
	k := 0
	unlikes(func(l [3]api.Point) {
		k++
		m := charts()[k%len(charts())].mob()
		images := maps(mob.Images(m, l[:]...))
		if got := is(circ.Through(images[0], images[1], images[2])); got != is(circ.Image(m, is(circ.Through(l[0], l[1], l[2])))) {
			t.Fatalf("the circle through the images of%s is %s", briefs(l[:]...), brief(got))
		}
	})
}

func TestImagesCompose(t *testing.T) { // P11.8
	is, made := must[api.Circle](t), must[api.Mob](t)
	k := 0
	pairs(func(m chart, circle ring) {
		k++
		n, c := charts()[k%len(charts())].mob(), circle.circle()
		both := made(mob.Compose(m.mob(), n))
		if got, wanted := is(circ.Image(both, c)), is(circ.Image(m.mob(), is(circ.Image(n, c)))); got != wanted {
			t.Fatalf("the image of %s by two is %s, by one behind the other %s", brief(c), brief(got), brief(wanted))
		}
		image := is(circ.Image(m.mob(), c))
		if back := is(circ.Image(made(mob.Inverse(m.mob())), image)); back != c || circ.Check(image) != api.OK {
			t.Fatalf("%s, there and back, is %s", brief(c), brief(back))
		}
		if is(circ.Image(mob.One(), c)) != c {
			t.Fatalf("what moves nothing moves %s", brief(c))
		}
		l, e := circ.Images(m.mob(), c, image, c)
		if e != api.OK || !slices.Equal(l, []api.Circle{image, is(circ.Image(m.mob(), image)), image}) {
			t.Fatalf("the images of %s: %v", brief(c), e)
		}
	})
}

// pointsOn answers some exact points of a circle that has a known one: the
// second points on lines through it.
func pointsOn(k ring, known num, r *rand.Rand) []spot {
	l := []spot{at(known)}
	for len(l) < 6 {
		way := oddNum(r, 2)
		if way.zero() {
			continue
		}
		// The value at known + s way is s (A |way|^2 s + 2 Re((A conj(known) + B) way)).
		slope := known.conj().times(real(k.a)).plus(k.b).times(way).re
		if slope.Sign() == 0 {
			continue
		}
		s := opposite(quo(plus(slope, slope), times(k.a, way.norm())))
		l = append(l, at(known.plus(way.times(real(s)))))
	}
	return l
}

func TestThroughPointsOfACircle(t *testing.T) { // P11.8, P0.5
	is := must[api.Circle](t)
	r := rand.New(rand.NewSource(1182))
	for range 60 {
		known, centre := oddNum(r, 3), oddNum(r, 3)
		square := known.minus(centre).norm()
		if square.Sign() == 0 {
			continue
		}
		c := is(circ.Round(centre.gauss(), fraction(square)))
		l := pointsOn(ringOf(c), known, r)
		got, all, e := circ.Together(pointsOf(l...)...)
		if len(firstThree(l)) == 3 && (got != c || !all || e != api.OK) {
			t.Fatalf("together, points of %s are on %s, %v, %v", brief(c), brief(got), all, e)
		}
		if !twins(l[1], l[2], l[3]) && is(circ.Through(l[1].point(), l[2].point(), l[3].point())) != c {
			t.Fatalf("through points of %s goes another one", brief(c))
		}
	}
}

// Four unlike points are on one circle just if their cross ratio is a fraction.
func TestTogetherGoesByTheRatio(t *testing.T) { // P11.8, P0.5
	k := 0
	unlikes(func(l [3]api.Point) {
		for _, p := range near0() {
			if k++; k%3 > 0 || slices.Contains(l[:], p.point()) {
				continue
			}
			ratio, e := cross.Ratio(l[0], l[1], l[2], p.point())
			_, all, f := circ.Together(l[0], l[1], l[2], p.point())
			if e != api.OK || f != api.OK || all != gauss.Real(ratio.Z) {
				t.Fatalf("together are%s and %s: %v, their ratio is %s", briefs(l[:]...), briefPoint(p.point()), all, briefPoint(ratio))
			}
		}
	})
}

// The power of the form that an image has ahead of its division is the circle's,
// times |A D - B C|^2; divided it is by the circle's value at the pole.
func TestPowerGrowsByTheDeterminant(t *testing.T) { // P11.8
	is, frac1, det := must[api.Circle](t), must[api.Frac](t), must[api.Gauss](t)
	divided := 0
	pairs(func(m chart, k ring) {
		c := k.circle()
		image := is(circ.Image(m.mob(), c))
		grown := frac1(frac.Mul(frac1(circ.Power(c)), frac1(gauss.Norm(det(mob.Det(m.mob()))))))
		// Whatever the form was divided by, its power was by the square.
		square := frac1(frac.Div(grown, frac1(circ.Power(image))))
		by := frac1(frac.Sqrt(square))
		pole := m.pole()
		if pole.inf || k.side(pole) == 0 {
			return
		}
		divided++
		value := frac1(frac.Abs(frac1(circ.Value(c, pole.z.gauss()))))
		if value != by {
			t.Fatalf("the power of %s grows by %s: its root is %s, want %s", brief(c), briefMap(m.mob()), briefFrac(by), briefFrac(value))
		}
	})
	if divided < 300 {
		t.Errorf("just %d were divided by a value", divided)
	}
}

func TestMeasuresAgree(t *testing.T) { // P11.8
	is, frac1 := must[api.Circle](t), must[api.Frac](t)
	r := rand.New(rand.NewSource(1183))
	for range 200 {
		k := oddRing(r, 9)
		c := k.circle()
		if is(circ.Make(c.A, c.B, c.C)) != c {
			t.Fatalf("made of its numbers %s is another one", brief(c))
		}
		centre, e := circ.Centre(c)
		if e != api.OK || centre.Inf != k.line() {
			t.Fatalf("the centre of %s: %s, %v", brief(c), briefPoint(centre), e)
		}
		if k.line() {
			continue
		}
		square := frac1(circ.Square(c))
		if is(circ.Round(centre.Z, square)) != c || frac1(circ.Power(c)) != square {
			t.Fatalf("%s is not about its centre", brief(c))
		}
		if frac1(frac.Neg(frac1(circ.Value(c, centre.Z)))) != square {
			t.Fatalf("the value of %s at its centre is not the square's opposite", brief(c))
		}
	}
}

func TestThereAndBack(t *testing.T) { // P11.8, P0.12
	is, texts := must[api.Circle](t), must[string](t)
	pairs(func(m chart, k ring) {
		c := is(circ.Image(m.mob(), k.circle()))
		if is(circ.Read(texts(circ.Text(c)))) != c {
			t.Fatalf("read from its text, %s is another circle", brief(c))
		}
	})
}

// What is told does not hang on earlier calls.
func TestAgain(t *testing.T) { // P11.8
	r := rand.New(rand.NewSource(1184))
	for range 50 {
		m, n, k, l := oddChart(r, 20).mob(), oddChart(r, 20).mob(), oddRing(r, 20).circle(), oddRing(r, 20).circle()
		p := oddSpot(r, 20).point()
		first, e := circ.Image(m, k)
		side, f := circ.Side(k, p)
		circ.Image(n, l)
		circ.Images(n, k, l)
		circ.Side(l, p)
		circ.Together(p, on(0, 0).point(), on(1, 0).point(), far().point())
		if again, g := circ.Image(m, k); again != first || g != e {
			t.Fatalf("the image of %s, again, is another one", brief(k))
		}
		if again, g := circ.Side(k, p); again != side || g != f {
			t.Fatalf("the side of %s, again, is another one", brief(k))
		}
	}
}
