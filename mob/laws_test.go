package mob_test

import (
	"math/rand"
	"testing"

	"tracery/api"
	"tracery/gauss"
	"tracery/mob"
)

// must is for calls that refuse nothing here.
func must(t *testing.T) func(m api.Mob, e api.Errno) api.Mob {
	return func(m api.Mob, e api.Errno) api.Mob {
		t.Helper()
		if e != api.OK || mob.Check(m) != api.OK {
			t.Fatal(brief(m), e)
		}
		return m
	}
}

func mustPoint(t *testing.T) func(p api.Point, e api.Errno) api.Point {
	return func(p api.Point, e api.Errno) api.Point {
		t.Helper()
		if e != api.OK {
			t.Fatal(briefPoint(p), e)
		}
		return p
	}
}

// threes goes over threes of maps.
func threes(do func(l, m, n api.Mob)) {
	var all []api.Mob
	for _, m := range maps() {
		if len(m.a.re.Num().Bytes()) < 20 && len(m.b.re.Num().Bytes()) < 20 {
			all = append(all, m.mob())
		}
	}
	r := rand.New(rand.NewSource(880))
	for range 400 {
		do(all[r.Intn(len(all))], all[r.Intn(len(all))], all[r.Intn(len(all))])
	}
	for range 50 {
		do(oddChart(r, 12).mob(), oddChart(r, 12).mob(), oddChart(r, 12).mob())
	}
}

func TestComposeDoesNotHangOnGrouping(t *testing.T) { // P8.8, P0.1
	ok := must(t)
	threes(func(l, m, n api.Mob) {
		all := ok(mob.Compose(l, m, n))
		if ok(mob.Compose(ok(mob.Compose(l, m)), n)) != all || ok(mob.Compose(l, ok(mob.Compose(m, n)))) != all {
			t.Fatalf("%s, %s, %s hang on their grouping", brief(l), brief(m), brief(n))
		}
		one := mob.One()
		if ok(mob.Compose(one, l, one, m, n, one)) != all || ok(mob.Compose(l, one)) != l || ok(mob.Compose(one, l)) != l {
			t.Fatalf("One changes %s, %s, %s", brief(l), brief(m), brief(n))
		}
		if all.Turns != (l.Turns != m.Turns != n.Turns) {
			t.Fatalf("%s turns", brief(all))
		}
	})
}

func TestInverseUndoes(t *testing.T) { // P8.8, P0.4
	ok := must(t)
	threes(func(l, m, n api.Mob) {
		back := ok(mob.Inverse(l))
		if ok(mob.Compose(l, back)) != mob.One() || ok(mob.Compose(back, l)) != mob.One() || ok(mob.Inverse(back)) != l {
			t.Fatalf("the inverse of %s does not undo it", brief(l))
		}
		if ok(mob.Inverse(ok(mob.Compose(m, n)))) != ok(mob.Compose(ok(mob.Inverse(n)), ok(mob.Inverse(m)))) {
			t.Fatalf("the inverse of %s behind %s", brief(m), brief(n))
		}
		if ok(mob.Power(l, 3)) != ok(mob.Compose(l, l, l)) || ok(mob.Power(l, -2)) != ok(mob.Compose(back, back)) || ok(mob.Power(l, 1)) != l {
			t.Fatalf("the powers of %s", brief(l))
		}
	})
}

func TestAtOfCompose(t *testing.T) { // P8.8, P0.2
	ok, is := must(t), mustPoint(t)
	r := rand.New(rand.NewSource(881))
	threes(func(l, m, n api.Mob) {
		p, q := oddSpot(r, 5).point(), oddSpot(r, 5).point()
		all := ok(mob.Compose(l, m, n))
		for _, p := range []api.Point{p, q, {Inf: true}, is(mob.Pole(n)), is(mob.Pole(all))} {
			if is(mob.At(all, p)) != is(mob.At(l, is(mob.At(m, is(mob.At(n, p)))))) {
				t.Fatalf("%s, %s, %s at %s", brief(l), brief(m), brief(n), briefPoint(p))
			}
		}
		if (is(mob.At(l, p)) == is(mob.At(l, q))) != (p == q) {
			t.Fatalf("%s sends unlike points to the same one", brief(l))
		}
		if is(mob.At(l, is(mob.Pole(l)))) != (api.Point{Inf: true}) {
			t.Fatalf("%s does not send its pole to infinity", brief(l))
		}
	})
}

func TestOfIsToldByThreePoints(t *testing.T) { // P8.8, P0.4
	is := mustPoint(t)
	r := rand.New(rand.NewSource(882))
	threes(func(l, m, n api.Mob) {
		for _, x := range []api.Mob{l, m, n} {
			from := [3]api.Point{oddSpot(r, 4).point(), oddSpot(r, 4).point(), oddSpot(r, 4).point()}
			if r.Intn(3) == 0 {
				from[r.Intn(3)] = is(mob.Pole(x))
			}
			if from[0] == from[1] || from[0] == from[2] || from[1] == from[2] {
				continue
			}
			var to [3]api.Point
			for k, p := range from {
				to[k] = is(mob.At(x, p))
			}
			if got, e := mob.Of(from, to, x.Turns); got != x || e != api.OK {
				t.Fatalf("%s, told by three points, is %s, %v", brief(x), brief(got), e)
			}
		}
	})
}

func TestDetOfCompose(t *testing.T) { // P8.8
	ok := must(t)
	det := func(m api.Mob) num {
		z, e := mob.Det(m)
		if e != api.OK {
			t.Fatal(e)
		}
		return numOf(z)
	}
	threes(func(l, m, n api.Mob) {
		l.Turns, m.Turns = false, false
		off := det(ok(mob.Compose(l, m))).over(det(l).times(det(m)))
		if _, e := gauss.Sqrt(off.gauss()); e != api.OK {
			t.Fatalf("the dets of %s and %s are off by what is no square: %v", brief(l), brief(m), e)
		}
	})
}

func TestOrbitIsPowers(t *testing.T) { // P8.8
	ok, is := must(t), mustPoint(t)
	r := rand.New(rand.NewSource(883))
	threes(func(l, m, n api.Mob) {
		p := oddSpot(r, 4).point()
		orbit, e := mob.Orbit(l, p, 4)
		if e != api.OK {
			t.Fatal(e)
		}
		for k, q := range orbit {
			if is(mob.At(ok(mob.Power(l, k)), p)) != q {
				t.Fatalf("%s, %d times, at %s", brief(l), k, briefPoint(p))
			}
		}
	})
}

func TestThereAndBack(t *testing.T) { // P8.8, P0.12
	ok := must(t)
	threes(func(l, m, n api.Mob) {
		s, e := mob.Text(l)
		if e != api.OK || ok(mob.Read(s)) != l {
			t.Fatalf("read from its text, %s is another map", brief(l))
		}
	})
}

// What is told of a map does not hang on the order or on earlier calls.
func TestAgain(t *testing.T) { // P8.8
	ok := must(t)
	threes(func(l, m, n api.Mob) {
		first := ok(mob.Compose(l, m))
		mob.Power(m, 5)
		mob.Compose(m, n)
		if ok(mob.Compose(l, m)) != first {
			t.Fatalf("%s behind %s, again, is another map", brief(l), brief(m))
		}
	})
}
