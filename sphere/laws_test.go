package sphere_test

import (
	"math/rand"
	"testing"

	"tracery/api"
	"tracery/frac"
	"tracery/sphere"
)

// pairs goes over twos of points.
func pairs(do func(p, q api.Point)) {
	near := pointsOf(grid())
	for _, p := range near {
		for _, q := range near {
			do(p, q)
		}
	}
	r := rand.New(rand.NewSource(79))
	for range 500 {
		do(odd(r, 8).point(), odd(r, 8).point())
	}
	for range 6 {
		do(odd(r, 30).point(), odd(r, 30).point())
	}
}

// must is for calls that refuse nothing here.
func must(t *testing.T) func(p api.Point, e api.Errno) api.Point {
	return func(p api.Point, e api.Errno) api.Point {
		t.Helper()
		if e != api.OK || !sphere.May(p) {
			t.Fatal(brief(p), e)
		}
		return p
	}
}

func mustFrac(t *testing.T) func(x api.Frac, e api.Errno) api.Frac {
	return func(x api.Frac, e api.Errno) api.Frac {
		t.Helper()
		if e != api.OK || !frac.May(x) {
			t.Fatal(briefFrac(x), e)
		}
		return x
	}
}

func TestTwiceLeadsBack(t *testing.T) { // P7.7
	ok := must(t)
	pairs(func(p, q api.Point) {
		for name, m := range moves() {
			if ok(m.does(ok(m.does(p)))) != p {
				t.Fatalf("%s twice of %s is another point", name, brief(p))
			}
		}
	})
}

func TestChordsAreKept(t *testing.T) { // P7.7
	ok, is := must(t), mustFrac(t)
	pairs(func(p, q api.Point) {
		chord := is(sphere.Chord(p, q))
		if is(sphere.Chord(q, p)) != chord {
			t.Fatalf("the chord of %s and %s hangs on their order", brief(p), brief(q))
		}
		for name, m := range moves() {
			if is(sphere.Chord(ok(m.does(p)), ok(m.does(q)))) != chord {
				t.Fatalf("%s does not keep the chord of %s and %s", name, brief(p), brief(q))
			}
		}
	})
}

func TestChordsAcross(t *testing.T) { // P7.7
	ok, is := must(t), mustFrac(t)
	none, four := over(0, 1), over(4, 1)
	pairs(func(p, q api.Point) {
		chord, across := is(sphere.Chord(p, q)), ok(sphere.Across(q))
		if (chord == none) != (p == q) || (chord == four) != (p == across) {
			t.Fatalf("the chord of %s and %s is %s", brief(p), brief(q), briefFrac(chord))
		}
		if is(frac.Add(chord, is(sphere.Chord(p, across)))) != four {
			t.Fatalf("the chords of %s to %s and across from it are not 4 together", brief(p), brief(q))
		}
		if is(sphere.Chord(q, q)) != none || is(sphere.Chord(q, across)) != four {
			t.Fatalf("the chords of %s to itself and across", brief(q))
		}
		if n, e := sphere.Nearest(p, across, q, p); n != 2 && p != q && p != across || e != api.OK {
			t.Fatalf("%s is not the nearest to itself: %d, %v", brief(p), n, e)
		}
	})
}

func TestLiftsAndChords(t *testing.T) { // P7.7
	ok, is := must(t), mustFrac(t)
	pairs(func(p, q api.Point) {
		from, e := sphere.Lift(p)
		to, f := sphere.Lift(q)
		if e != api.OK || f != api.OK {
			t.Fatal(e, f)
		}
		sum := over(0, 1)
		for k := range from {
			apart := is(frac.Sub(from[k], to[k]))
			sum = is(frac.Add(sum, is(frac.Mul(apart, apart))))
		}
		if sum != is(sphere.Chord(p, q)) {
			t.Fatalf("the chord of %s and %s is not that of their lifts", brief(p), brief(q))
		}
		if ok(sphere.Drop(from)) != p {
			t.Fatalf("%s, lifted and dropped, is another point", brief(p))
		}
	})
}

func TestDropsAndLifts(t *testing.T) { // P7.7
	ok := must(t)
	// All fractions of small dens whose squares together are 1.
	for den := int64(1); den <= 15; den++ {
		for x := -den; x <= den; x++ {
			for y := -den; y <= den; y++ {
				for h := -den; h <= den; h++ {
					l := [3]api.Frac{over(x, den), over(y, den), over(h, den)}
					if x*x+y*y+h*h != den*den {
						if got, e := sphere.Drop(l); got != (api.Point{}) || e != api.ErrArg {
							t.Fatalf("%v dropped: %s, %v", l, brief(got), e)
						}
						continue
					}
					if got, e := sphere.Lift(ok(sphere.Drop(l))); got != l || e != api.OK {
						t.Fatalf("%v, dropped and lifted, is %v, %v", l, got, e)
					}
				}
			}
		}
	}
}

func TestThereAndBack(t *testing.T) { // P7.7, P0.12
	ok := must(t)
	pairs(func(p, q api.Point) {
		s, e := sphere.Text(p)
		if e != api.OK || ok(sphere.Read(s)) != p {
			t.Fatalf("read from its text, %s is another point", brief(p))
		}
		if order, e := sphere.Cmp(p, q); (order == 0) != (p == q) || e != api.OK {
			t.Fatalf("%s against %s is %d, %v", brief(p), brief(q), order, e)
		}
	})
}
