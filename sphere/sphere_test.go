package sphere_test

import (
	"testing"

	"tracery/api"
	"tracery/sphere"
)

func TestMay(t *testing.T) { // P7.1
	ones(func(z spot) {
		if !sphere.May(z.point()) {
			t.Fatalf("%s may be", brief(z.point()))
		}
	})
	for _, p := range wrong() {
		if sphere.May(p) {
			t.Fatalf("%s, infinity: %v, may not be", brief(p), p.Inf)
		}
	}
	if sphere.May(api.Point{}) {
		t.Error("the zero point may not be")
	}
}

func TestOf(t *testing.T) { // P7.1
	ones(func(z spot) {
		if z.inf {
			return
		}
		p, e := sphere.Of(z.point().Z)
		want(t, "the point of a number", p, e, z.point())
	})
	for _, z := range wrongNumbers() {
		p, e := sphere.Of(z)
		wantRefused(t, "the point of a wrong number", p, e, api.ErrArg)
	}
	if p := sphere.Infinity(); p != (api.Point{Inf: true}) || !sphere.May(p) {
		t.Error("infinity is another point")
	}
}

// order goes by the words of both chapters.
func order(z, w spot) int {
	switch {
	case z.inf && w.inf:
		return 0
	case z.inf:
		return 1
	case w.inf:
		return -1
	case z.re.Cmp(w.re) != 0:
		return z.re.Cmp(w.re)
	}
	return z.im.Cmp(w.im)
}

func TestCmp(t *testing.T) { // P7.1
	check := func(z, w spot) {
		t.Helper()
		if got, e := sphere.Cmp(z.point(), w.point()); got != order(z, w) || e != api.OK {
			t.Fatalf("%s against %s is %d, %v", brief(z.point()), brief(w.point()), got, e)
		}
	}
	twoes(func(z, w spot) {
		check(z, w)
		check(w, z)
		check(z, z)
		if !z.inf && !w.inf {
			check(z, at(z.re, w.im))
			check(at(w.re, z.im), z)
		}
	})
	for _, p := range wrong() {
		for _, z := range good() {
			for _, l := range [][2]api.Point{{p, z.point()}, {z.point(), p}, {p, p}} {
				if got, e := sphere.Cmp(l[0], l[1]); got != 0 || e != api.ErrArg {
					t.Fatalf("%s against %s is %d, %v", brief(l[0]), brief(l[1]), got, e)
				}
			}
		}
	}
}
