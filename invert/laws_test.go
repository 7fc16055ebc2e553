package invert_test

import (
	"math/rand"
	"slices"
	"testing"

	"tracery/api"
	"tracery/circ"
	"tracery/gauss"
	"tracery/invert"
	"tracery/mob"
)

// maps are some, turned and not.
func maps(t *testing.T) []api.Mob {
	made := must[api.Mob](t)
	r := rand.New(rand.NewSource(1460))
	l := []api.Mob{mob.One(), made(mob.Slide(gauss.Int(1, -2))), made(mob.Stretch(gauss.Int(2, 1))), charted(0, 1, 1, 0).mob()}
	for len(l) < 12 {
		if m, e := mob.Make(oddNum(r, 2).gauss(), oddNum(r, 2).gauss(), oddNum(r, 2).gauss(), oddNum(r, 2).gauss(), false); e == api.OK {
			l = append(l, m)
		}
	}
	for _, m := range l {
		m.Turns = true
		l = append(l, m)
	}
	return l
}

// some goes over two circles and a point of short numbers.
func some(do func(n int, c, d api.Circle, p api.Point)) {
	r := rand.New(rand.NewSource(1461))
	n := 0
	pairs(func(k, l ring) {
		for _, x := range []ring{k, l} {
			if len(x.b.re.String())+len(x.b.im.String())+len(x.c.String()) > 200 {
				return
			}
		}
		if n++; n%4 == 0 || k.same(l) || k.right(l) {
			do(n, k.circle(), l.circle(), oddSpot(r, 2).point())
		}
	})
}

func TestTwiceMovesNothing(t *testing.T) { // P14.6
	moved, is, done := must[api.Point](t), must[api.Circle](t), must[api.Mob](t)
	some(func(_ int, c, d api.Circle, p api.Point) {
		if done(invert.Chain(c, c)) != mob.One() {
			t.Fatalf("turned over %s twice something moves", brief(c))
		}
		if moved(invert.Point(c, moved(invert.Point(c, p)))) != p || moved(invert.Bounce(c, c, p, 2)) != p {
			t.Fatalf("turned over %s twice %s moves", brief(c), briefPoint(p))
		}
		if is(invert.Circle(c, is(invert.Circle(c, d)))) != d {
			t.Fatalf("turned over %s twice %s moves", brief(c), brief(d))
		}
		if is(invert.Is(done(invert.Over(c)))) != c {
			t.Fatalf("the turning over %s is over another one", brief(c))
		}
	})
}

func TestSidesChange(t *testing.T) { // P14.6
	moved, side := must[api.Point](t), must[int](t)
	seen := map[int]int{}
	check := func(c api.Circle, p api.Point) {
		t.Helper()
		q := moved(invert.Point(c, p))
		was, is := side(circ.Side(c, p)), side(circ.Side(c, q))
		seen[was]++
		if is != -was || (was == 0) != (p == q) {
			t.Fatalf("turned over %s %s goes to %s, from side %d to %d", brief(c), briefPoint(p), briefPoint(q), was, is)
		}
	}
	some(func(_ int, c, d api.Circle, p api.Point) {
		check(c, p)
		check(d, far().point())
		for re := range int64(4) {
			check(c, on(re-2, re/2).point())
			check(d, on(1-re, 0).point())
		}
	})
	// On a circle through a point: about any other one, or upright on any.
	r := rand.New(rand.NewSource(1462))
	for range 200 {
		p, q := oddNum(r, 4), oddNum(r, 4)
		if p.same(q) {
			continue
		}
		for _, k := range []ring{about(q, p.minus(q).norm()), upon(q.minus(p), p)} {
			if !k.fits() || !k.holds(at(p)) {
				t.Fatalf("%s is not through the point", brief(k.circle()))
			}
			check(k.circle(), at(p).point())
		}
	}
	for _, s := range []int{-1, 0, 1} {
		if seen[s] < 200 {
			t.Errorf("just %d on side %d", seen[s], s)
		}
	}
}

func TestOverOfAnImage(t *testing.T) { // P14.6, P0.2
	is, done, moved := must[api.Circle](t), must[api.Mob](t), must[api.Point](t)
	all := maps(t)
	some(func(n int, c, d api.Circle, p api.Point) {
		m := all[n%len(all)]
		image := is(circ.Image(m, c))
		if done(invert.Over(image)) != done(mob.Compose(m, done(invert.Over(c)), done(mob.Inverse(m)))) {
			t.Fatalf("the turning over %s, which is by %s an image of %s, goes elsewhere", brief(image), briefMap(m), brief(c))
		}
		if moved(invert.Point(image, moved(mob.At(m, p)))) != moved(mob.At(m, moved(invert.Point(c, p)))) {
			t.Fatalf("turned over an image of %s by %s %s goes elsewhere", brief(c), briefMap(m), briefPoint(p))
		}
		other := is(circ.Image(m, d))
		if is(invert.Circle(image, other)) != is(circ.Image(m, is(invert.Circle(c, d)))) {
			t.Fatalf("turned over an image of %s by %s %s goes elsewhere", brief(c), briefMap(m), brief(d))
		}
		if must[bool](t)(invert.Right(image, other)) != must[bool](t)(invert.Right(c, d)) {
			t.Fatalf("the images of %s and %s cross otherwise", brief(c), brief(d))
		}
	})
}

func TestOverSendsAsPointAndCircle(t *testing.T) { // P14.6, P0.2
	is, done, moved := must[api.Circle](t), must[api.Mob](t), must[api.Point](t)
	some(func(_ int, c, d api.Circle, p api.Point) {
		m := done(invert.Over(c))
		if mob.Check(m) != api.OK || !m.Turns {
			t.Fatalf("the turning over %s is %s", brief(c), briefMap(m))
		}
		if moved(mob.At(m, p)) != moved(invert.Point(c, p)) || is(circ.Image(m, d)) != is(invert.Circle(c, d)) {
			t.Fatalf("the turning over %s sends elsewhere than the map", brief(c))
		}
		if is(circ.Image(m, c)) != c || is(invert.Circle(c, c)) != c {
			t.Fatalf("the turning over %s moves it", brief(c))
		}
	})
}

func TestEitherOrder(t *testing.T) { // P14.6
	is, done := must[api.Circle](t), must[api.Mob](t)
	right, same, other := 0, 0, 0
	some(func(_ int, c, d api.Circle, p api.Point) {
		wanted := c == d
		switch crossed := must[bool](t)(invert.Right(c, d)); {
		case wanted:
			same++
		case crossed:
			wanted = true
			right++
		default:
			other++
		}
		if (done(invert.Chain(c, d)) == done(invert.Chain(d, c))) != wanted {
			t.Fatalf("over %s and %s it matters which is first: want %v", brief(c), brief(d), !wanted)
		}
		if (is(invert.Circle(c, d)) == d) != wanted || (is(invert.Circle(d, c)) == c) != wanted {
			t.Fatalf("%s and %s leave each other: want %v", brief(c), brief(d), wanted)
		}
	})
	if right < 100 || same < 50 || other < 100 {
		t.Errorf("%d at right angles, %d the same, %d others", right, same, other)
	}
}

func TestChainsAreComposed(t *testing.T) { // P14.6
	r := rand.New(rand.NewSource(1463))
	done, moved := must[api.Mob](t), must[api.Point](t)
	for n := range 200 {
		var l []api.Circle
		var turnings []api.Mob
		for range n % 9 {
			c := oddRing(r, 2).circle()
			l = append(l, c)
			turnings = append(turnings, done(invert.Over(c)))
		}
		m := done(invert.Chain(l...))
		if m.Turns != (len(l)%2 == 1) {
			t.Fatalf("the chain of %d turns: %v", len(l), m.Turns)
		}
		slices.Reverse(turnings) // since of those that are composed the last one is done first
		if m != done(mob.Compose(turnings...)) {
			t.Fatalf("the chain of %d is none of turnings one behind the other", len(l))
		}
		p := oddSpot(r, 2).point()
		walk, e := invert.Walk(p, l...)
		if e != api.OK {
			t.Fatal(e)
		}
		for k, q := range walk {
			if q != moved(mob.At(done(invert.Chain(l[:k]...)), p)) {
				t.Fatalf("behind %d turnings %s is at %s", k, briefPoint(p), briefPoint(q))
			}
		}
		slices.Reverse(l)
		if done(invert.Chain(l...)) != done(mob.Inverse(m)) {
			t.Fatalf("the chain of %d, the last one first, does not lead back", len(l))
		}
	}
}

func TestBounceIsAWalk(t *testing.T) { // P14.6
	moved := must[api.Point](t)
	some(func(n int, c, d api.Circle, p api.Point) {
		n %= 8
		l := slices.Repeat([]api.Circle{c, d}, 4)[:n]
		q := moved(invert.Bounce(c, d, p, n))
		if q != moved(mob.At(must[api.Mob](t)(invert.Chain(l...)), p)) {
			t.Fatalf("%d between %s and %s: %s", n, brief(c), brief(d), briefPoint(q))
		}
		first, second := c, d // the way back
		if n%2 == 0 {
			first, second = d, c
		}
		if moved(invert.Bounce(first, second, q, n)) != p {
			t.Fatalf("%d between %s and %s do not lead back", n, brief(c), brief(d))
		}
	})
}

func TestCommonIsAtRightAngles(t *testing.T) { // P14.6, P0.2
	is, holds, moved := must[api.Circle](t), must[bool](t), must[api.Point](t)
	all, count := maps(t), 0
	some(func(n int, c, d api.Circle, p api.Point) {
		m := all[n%len(all)]
		common, e := invert.Common(c, d, p)
		image, wrong := invert.Common(is(circ.Image(m, c)), is(circ.Image(m, d)), moved(mob.At(m, p)))
		if e != wrong {
			t.Fatalf("common to %s and %s: %v, to their images %v", brief(c), brief(d), e, wrong)
		}
		if e != api.OK {
			return
		}
		count++
		if circ.Check(common) != api.OK || !holds(circ.On(common, p)) || !holds(invert.Right(c, common)) || !holds(invert.Right(common, d)) {
			t.Fatalf("%s is not common to %s and %s", brief(common), brief(c), brief(d))
		}
		if !holds(circ.On(common, moved(invert.Point(c, p)), moved(invert.Point(d, p)))) || is(invert.Circle(c, common)) != common || is(invert.Circle(d, common)) != common {
			t.Fatalf("%s moves, turned over %s and %s", brief(common), brief(c), brief(d))
		}
		if is(circ.Image(m, common)) != image {
			t.Fatalf("what is common to %s and %s is not carried on", brief(c), brief(d))
		}
	})
	if count < 300 {
		t.Errorf("just %d had one in common", count)
	}
}

// What is told does not hang on earlier calls.
func TestAgain(t *testing.T) { // P14.6
	r := rand.New(rand.NewSource(1464))
	for range 50 {
		c, d, p := oddRing(r, 9).circle(), oddRing(r, 9).circle(), oddSpot(r, 9).point()
		chain, e := invert.Chain(c, d)
		common, wrong := invert.Common(c, d, p)
		point, _ := invert.Bounce(c, d, p, 3)
		invert.Chain(d, d)
		invert.Is(chain)
		invert.Common(d, d, p)
		invert.Bounce(d, c, p, 2)
		if again, x := invert.Chain(c, d); again != chain || x != e {
			t.Fatalf("the chain of %s and %s is told otherwise again", brief(c), brief(d))
		}
		if again, x := invert.Common(c, d, p); again != common || x != wrong {
			t.Fatalf("what is common to %s and %s is told otherwise again", brief(c), brief(d))
		}
		if again, _ := invert.Bounce(c, d, p, 3); again != point {
			t.Fatalf("%s is brought elsewhere again", briefPoint(p))
		}
	}
}
