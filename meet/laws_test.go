package meet_test

import (
	"math/rand"
	"slices"
	"testing"

	"tracery/api"
	"tracery/circ"
	"tracery/frac"
	"tracery/gauss"
	"tracery/meet"
	"tracery/mob"
	"tracery/sphere"
)

// maps are some, turned and not.
func maps(t *testing.T) []api.Mob {
	made := must[api.Mob](t)
	r := rand.New(rand.NewSource(1360))
	l := []api.Mob{mob.One(), made(mob.Slide(gauss.Int(1, -2))), made(mob.Stretch(gauss.Int(2, 1))), made(mob.Make(gauss.Int(0, 0), gauss.Int(1, 0), gauss.Int(1, 0), gauss.Int(0, 0), false))}
	for len(l) < 12 {
		if m, e := mob.Make(oddNum(r, 2).gauss(), oddNum(r, 2).gauss(), oddNum(r, 2).gauss(), oddNum(r, 2).gauss(), false); e == api.OK {
			l = append(l, m)
		}
	}
	for _, m := range l {
		m.Turns = true
		l = append(l, m)
	}
	return l
}

// some goes over two circles that are not long: of all kinds, as they lie.
func some(do func(n int, k, l ring)) {
	n := 0
	pairs(func(k, l ring) {
		if n++; n%9 != 0 && !k.same(l) || longer(k) || longer(l) {
			return
		}
		do(n, k, l)
	})
}

func longer(k ring) bool {
	for _, x := range []api.Frac{fraction(k.b.re), fraction(k.b.im), fraction(k.c)} {
		if len(x.Num.Mag)+len(x.Den.Mag) > 60 {
			return true
		}
	}
	return false
}

// met is how two circles lie, by their square and by the kind.
type met struct {
	square api.Frac
	lies   api.Lying
}

func metOf(t *testing.T, c, d api.Circle) met {
	t.Helper()
	return met{must[api.Frac](t)(meet.Square(c, d)), must[api.Lying](t)(meet.Lies(c, d))}
}

func TestLyingIsKept(t *testing.T) { // P13.6, P0.2
	is := must[api.Circle](t)
	all, seen := maps(t), map[api.Lying]int{}
	r := rand.New(rand.NewSource(1361))
	some(func(n int, k, l ring) {
		c, d := k.circle(), l.circle()
		wanted := metOf(t, c, d)
		seen[wanted.lies]++
		if metOf(t, d, c) != wanted {
			t.Fatalf("how%s lie hangs on their order", briefRings(k, l))
		}
		m := all[n%len(all)]
		if metOf(t, is(circ.Image(m, c)), is(circ.Image(m, d))) != wanted {
			t.Fatalf("the images of%s lie otherwise", briefRings(k, l))
		}
		third := oddRing(r, 3).circle()
		if metOf(t, is(meet.Over(third, c)), is(meet.Over(third, d))) != wanted {
			t.Fatalf("turned over %s%s lie otherwise", brief(third), briefRings(k, l))
		}
		// The square tells the kind.
		if n, e := frac.Cmp(wanted.square, over(1, 1)); e != api.OK || [3]api.Lying{api.LiesCrossing, api.LiesTouching, api.LiesApart}[n+1] != wanted.lies && c != d {
			t.Fatalf("%s lie %v, their square being %s", briefRings(k, l), wanted.lies, briefFrac(wanted.square))
		}
	})
	for _, lies := range []api.Lying{api.LiesSame, api.LiesTouching, api.LiesCrossing, api.LiesApart} {
		if seen[lies] < 20 {
			t.Errorf("just %d lie %v", seen[lies], lies)
		}
	}
}

// near0 are whole points near 0, halves, and infinity.
func near0() []api.Point {
	l := []spot{far()}
	for x := int64(-6); x <= 6; x++ {
		for y := int64(-6); y <= 6; y++ {
			l = append(l, at(num{rat(x, 2), rat(y, 2)}))
		}
	}
	return pointsOf(l...)
}

func TestPointsAreThoseOnBoth(t *testing.T) { // P13.6
	holds := must[bool](t)
	around, told := near0(), 0
	some(func(n int, k, l ring) {
		c, d := k.circle(), l.circle()
		points, e := meet.Points(c, d)
		if len(points) > 0 && (!holds(circ.On(c, points...)) || !holds(circ.On(d, points...))) {
			t.Fatalf("the points of%s:%s are not on both", briefRings(k, l), briefs(points...))
		}
		if sorted, wrong := sphere.Sort(points...); wrong != api.OK || !slices.Equal(sorted, points) {
			t.Fatalf("the points of%s:%s do not rise", briefRings(k, l), briefs(points...))
		}
		if c == d {
			return
		}
		for _, p := range around {
			both := holds(circ.On(c, p)) && holds(circ.On(d, p))
			if both {
				told++
			}
			if both != slices.Contains(points, p) {
				t.Fatalf("the points of%s:%s, %v; on both is%s: %v", briefRings(k, l), briefs(points...), e, briefs(p), both)
			}
		}
	})
	if told < 100 {
		t.Errorf("just %d points were on both", told)
	}
}

func TestPointsAreCarriedOn(t *testing.T) { // P13.6, P0.2
	is, moved := must[api.Circle](t), must[[]api.Point](t)
	all, told := maps(t), 0
	some(func(n int, k, l ring) {
		c, d, m := k.circle(), l.circle(), all[n%len(all)]
		points, e := meet.Points(c, d)
		images, wrong := meet.Points(is(circ.Image(m, c)), is(circ.Image(m, d)))
		wanted := moved(sphere.Sort(moved(mob.Images(m, points...))...))
		if wrong != e || !slices.Equal(images, wanted) {
			t.Fatalf("the points of%s's images:%s, %v, want%s, %v", briefRings(k, l), briefs(images...), wrong, briefs(wanted...), e)
		}
		told += len(points)
	})
	if told < 100 {
		t.Errorf("just %d points were carried on", told)
	}
}

func TestMixesGoThroughThePoints(t *testing.T) { // P13.7
	holds := must[bool](t)
	r := rand.New(rand.NewSource(1370))
	told := 0
	some(func(n int, k, l ring) {
		c, d := k.circle(), l.circle()
		points, e := meet.Points(c, d)
		m, wrong := meet.Mix(c, d, fraction(odd(r, 2)), fraction(odd(r, 2)))
		if e != api.OK || wrong != api.OK {
			return
		}
		told++
		if circ.Check(m) != api.OK || !holds(circ.On(m, points...)) || !holds(meet.Bundle(c, d, m)) {
			t.Fatalf("%s, a mix of%s, does not go through their points", brief(m), briefRings(k, l))
		}
		// Two mixes share just these points.
		if again, e := meet.Points(m, c); m != c && (e != api.OK || !slices.Equal(again, points)) {
			t.Fatalf("%s, a mix of%s, shares other points with the first one", brief(m), briefRings(k, l))
		}
	})
	if told < 100 {
		t.Errorf("just %d mixes went through points", told)
	}
}

func TestUprightOnMixes(t *testing.T) { // P13.7
	is, up := must[api.Circle](t), must[bool](t)
	r := rand.New(rand.NewSource(1371))
	mixes := 0
	some(func(n int, k, l ring) {
		c, d := k.circle(), l.circle()
		third := oddRing(r, 2).circle()
		across, e := meet.Across(c, d, third)
		if e != api.OK {
			return
		}
		if circ.Check(across) != api.OK || !up(meet.Upright(across, c)) || !up(meet.Upright(d, across)) || !up(meet.Upright(third, across)) {
			t.Fatalf("%s is not upright on%s and %s", brief(across), briefRings(k, l), brief(third))
		}
		if m, e := meet.Mix(c, d, fraction(odd(r, 2)), fraction(odd(r, 2))); e == api.OK {
			mixes++
			if !up(meet.Upright(m, across)) {
				t.Fatalf("%s is not upright on a mix of%s", brief(across), briefRings(k, l))
			}
		}
		if axis, e := meet.Axis(c, d); e == api.OK && !up(meet.Upright(axis, across)) {
			t.Fatalf("%s is not upright on the axis of%s", brief(across), briefRings(k, l))
		}
		// Turned over it each of the three stays.
		for _, x := range []api.Circle{c, d, third} {
			if is(meet.Over(across, x)) != x || is(meet.Over(x, across)) != across {
				t.Fatalf("turned over %s, which is upright on it, %s moves", brief(across), brief(x))
			}
		}
	})
	if mixes < 100 {
		t.Errorf("just %d mixes", mixes)
	}
}

// turning is the map that leaves the circle's points where they are, and turns.
func turning(t *testing.T, c api.Circle) api.Mob {
	t.Helper()
	num := must[api.Gauss](t)
	b := num(gauss.Neg(num(gauss.Conj(c.B))))
	last := api.Gauss{Re: must[api.Frac](t)(frac.Neg(c.C)), Im: frac.Int(0)}
	return must[api.Mob](t)(mob.Make(b, last, api.Gauss{Re: c.A, Im: frac.Int(0)}, c.B, true))
}

func TestOverLeadsBack(t *testing.T) { // P13.7
	is := must[api.Circle](t)
	some(func(n int, k, l ring) {
		c, d := k.circle(), l.circle()
		image := is(meet.Over(c, d))
		if circ.Check(image) != api.OK || is(meet.Over(c, image)) != d {
			t.Fatalf("turned over %s twice, %s does not come back", brief(c), brief(d))
		}
		if is(circ.Image(turning(t, c), d)) != image {
			t.Fatalf("turned over %s, %s goes to %s: by the map elsewhere", brief(c), brief(d), brief(image))
		}
		if is(meet.Over(c, c)) != c {
			t.Fatalf("turned over itself, %s moves", brief(c))
		}
		stays, wanted := image == d, must[bool](t)(meet.Upright(c, d)) || c == d
		if stays != wanted {
			t.Fatalf("turned over %s, %s stays: %v, want %v", brief(c), brief(d), stays, wanted)
		}
		// It is the mix that the chapter names.
		by := must[api.Frac](t)(frac.Mul(frac.Int(-2), must[api.Frac](t)(frac.Div(must[api.Frac](t)(meet.Product(c, d)), must[api.Frac](t)(circ.Power(c))))))
		if is(meet.Mix(d, c, frac.Int(1), by)) != image {
			t.Fatalf("turned over %s, %s is not the mix of both", brief(c), brief(d))
		}
	})
}

func TestUprightTurningsChangePlaces(t *testing.T) { // P13.7
	r := rand.New(rand.NewSource(1372))
	moved := must[api.Point](t)
	upright, other := 0, 0
	check := func(c, d api.Circle) {
		first, second := turning(t, c), turning(t, d)
		apart := false
		for range 4 {
			p := at(oddNum(r, 2)).point()
			there := moved(mob.At(second, moved(mob.At(first, p))))
			back := moved(mob.At(first, moved(mob.At(second, p))))
			apart = apart || there != back
		}
		up := must[bool](t)(meet.Upright(c, d))
		if up && apart {
			t.Fatalf("turned over %s and %s, which are upright, it matters which is first", brief(c), brief(d))
		}
		if up {
			upright++
		} else if apart {
			other++
		}
	}
	some(func(n int, k, l ring) {
		c, d := k.circle(), l.circle()
		check(c, d)
		if across, e := meet.Across(c, d, oddRing(r, 2).circle()); e == api.OK && !longer(ringOf(across)) {
			check(c, across)
			check(across, d)
		}
	})
	if upright < 200 || other < 200 {
		t.Errorf("%d were upright, %d others came elsewhere", upright, other)
	}
}

// What is told does not hang on earlier calls.
func TestAgain(t *testing.T) { // P13.6
	r := rand.New(rand.NewSource(1373))
	for range 50 {
		c, d, e := oddRing(r, 20).circle(), oddRing(r, 20).circle(), oddRing(r, 20).circle()
		lies, _ := meet.Lies(c, d)
		across, wrong := meet.Across(c, d, e)
		over, _ := meet.Over(c, d)
		meet.Lies(d, e)
		meet.Across(e, e, d)
		meet.Points(c, e)
		meet.Over(e, c)
		if again, _ := meet.Lies(c, d); again != lies {
			t.Fatalf("how %s and %s lie is told otherwise again", brief(c), brief(d))
		}
		if again, e := meet.Across(c, d, e); again != across || e != wrong {
			t.Fatalf("what is upright on %s and %s is told otherwise again", brief(c), brief(d))
		}
		if again, _ := meet.Over(c, d); again != over {
			t.Fatalf("%s turned over is told otherwise again", brief(d))
		}
	}
}
