package fmob_test

import (
	"math"
	"math/rand"
	"testing"

	"tracery/api"
	"tracery/fmob"
)

func TestOfLosesNothing(t *testing.T) { // P9.6
	r := rand.New(rand.NewSource(98))
	for _, part := range kinds()[:3] {
		for range 500 {
			number := func() api.Gauss {
				z := numberOf(r, part)
				return exact(exactly(real(z)), exactly(imag(z)))
			}
			m := exactMap(number(), number(), small(0, 0), small(1, 0))
			m.Turns = r.Intn(2) == 0
			if m.A == small(0, 0) {
				continue
			}
			f, e := fmob.Of(m)
			if e != api.OK {
				t.Fatalf("Of: %v", e)
			}
			l := partsOf(f)
			back := func(k int) api.Gauss { return exact(exactly(l[k]), exactly(l[k+1])) }
			if again := (api.Mob{A: back(0), B: back(2), C: back(4), D: back(6), Turns: f.Turns}); again != m {
				t.Fatalf("Of loses something: %v", f)
			}
		}
	}
}

func TestInverseTwice(t *testing.T) { // P9.6: at all numbers
	maps(func(f api.FMob) {
		back := fmob.Inverse(fmob.Inverse(f))
		wantMap(t, "Inverse twice", back, f)
		if !fmob.Like(back, f) {
			t.Fatalf("Inverse twice of %v is not like it", f)
		}
	})
}

func TestComposeWithOne(t *testing.T) { // P9.6
	one := plain(1, 0, 0, 1)
	asked := 0
	maps(func(f api.FMob) {
		if !mayBe(f) {
			return
		}
		asked++
		// Go's == takes noughts of either sign for the same.
		if fmob.Compose(one, f) != f || fmob.Compose(f, one) != f {
			t.Fatalf("Compose of %v and what moves nothing: %v, %v", f, fmob.Compose(one, f), fmob.Compose(f, one))
		}
	})
	if asked < 10000 {
		t.Errorf("asked only %d times", asked)
	}
}

func TestScaleIsAboutOne(t *testing.T) { // P9.6
	maps(func(f api.FMob) {
		g, e := fmob.Scale(f)
		if e != api.OK {
			return
		}
		if top := topOf(g); !(top >= 1 && top < 2) {
			t.Fatalf("Scale(%v): %v", f, g)
		}
		again, e := fmob.Scale(g)
		if e != api.OK || !fmob.Like(again, g) {
			t.Fatalf("Scale of Scale(%v): %v, %v", f, again, e)
		}
	})
}

// Of small whole numbers nothing but quotients is rounded: the maps are those of
// numbers, one behind the other, and back, but for little.
func TestSmallNumbers(t *testing.T) { // P9.2, P9.3
	r := rand.New(rand.NewSource(99))
	number := func() complex128 { return complex(float64(r.Intn(9)-4), float64(r.Intn(9)-4)) }
	held := 0
	for range 20000 {
		f := api.FMob{A: number(), B: number(), C: number(), D: number(), Turns: r.Intn(2) == 0}
		g := api.FMob{A: 1, B: number(), D: 1, Turns: r.Intn(2) == 0}
		p := at(number())
		if fmob.Det(f) == 0 {
			continue
		}
		held++
		if one, two := fmob.At(fmob.Compose(f, g), p), fmob.Run(p, g, f); !together(one, two) {
			t.Fatalf("%v behind %v at %v: %v and %v", f, g, p, one, two)
		}
		if back := fmob.Run(p, f, fmob.Inverse(f)); !together(back, p) {
			t.Fatalf("%v and back at %v: %v", f, p, back)
		}
	}
	if held < 10000 {
		t.Errorf("asked only %d times", held)
	}
}

// together is for points whose numbers are small: quotients are rounded.
func together(p, q api.FPoint) bool {
	if p.Inf || q.Inf {
		return p.Inf == q.Inf || far(p) || far(q)
	}
	d := p.Z - q.Z
	return math.Hypot(real(d), imag(d)) < 1e-9
}

// far: a quotient that was rounded may miss the pole by a little.
func far(p api.FPoint) bool { return math.Hypot(real(p.Z), imag(p.Z)) > 1e9 }
