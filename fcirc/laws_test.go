package fcirc_test

import (
	"math"
	"math/big"
	"math/rand"
	"testing"

	"tracery/api"
	"tracery/circ"
	"tracery/fcirc"
	"tracery/mob"
)

// must is for calls that refuse nothing here.
func must[T any](t *testing.T) func(x T, e api.Errno) T {
	return func(x T, e api.Errno) T {
		t.Helper()
		if e != api.OK {
			t.Fatal(e)
		}
		return x
	}
}

// upTo draws a whole number of a magnitude up to n: now and then an end, or 0.
func upTo(r *rand.Rand, n int64) int64 {
	switch r.Intn(8) {
	case 0:
		return n
	case 1:
		return -n
	case 2:
		return 0
	}
	return r.Int63n(2*n+1) - n
}

// smallRing draws a circle of whole numbers and a point: with a bound of few bits
// one that is on it, where that may be.
func smallRing(r *rand.Rand, bound int64) (k ring, x, y int64) {
	a, re, im, c := int64(1), upTo(r, bound), upTo(r, bound), upTo(r, bound)
	switch r.Intn(3) {
	case 0:
		a, re = 0, 1
	case 1:
		a, re, im = 0, 0, 1
	}
	x, y = upTo(r, bound), upTo(r, bound)
	if on := -(a*(x*x+y*y) + 2*(re*x-im*y)); r.Intn(2) == 0 && max(on, -on) <= 1<<20 {
		c = on
	}
	return ringed(a, re, im, c), x, y
}

func valueExactly(k ring, x, y int64) *big.Rat {
	number := func(n int64) *big.Rat { return ratio(n, 1) }
	square := new(big.Rat).Add(number(x*x), number(y*y))
	v := new(big.Rat).Sub(new(big.Rat).Mul(k.re, number(x)), new(big.Rat).Mul(k.im, number(y)))
	out := new(big.Rat).Mul(k.a, square)
	return out.Add(out, v.Add(v, v)).Add(out, k.c)
}

func small(x, y int64) api.Gauss {
	return api.Gauss{Re: fraction(ratio(x, 1)), Im: fraction(ratio(y, 1))}
}

func TestSmallNumbersAreExact(t *testing.T) { // P12.7
	r := rand.New(rand.NewSource(1271))
	told := [3]int{}
	for _, bound := range []int64{3, 30, 300, 1 << 20} {
		for range 5000 {
			k, x, y := smallRing(r, bound)
			if !k.mayBe() {
				continue
			}
			c := k.circle()
			f, z := must[api.FCircle](t)(fcirc.Of(c)), complex(float64(x), float64(y))
			if v := fcirc.Value(f, z); exactly(v).Cmp(valueExactly(k, x, y)) != 0 {
				t.Fatalf("Value(%v, %v): %v", f, z, v)
			}
			p := api.Point{Z: small(x, y)}
			if on := must[bool](t)(circ.On(c, p)); on != (fcirc.Value(f, z) == 0) {
				t.Fatalf("Value(%v, %v): %v, though it is on it: %v", f, z, fcirc.Value(f, z), on)
			}
			side := must[int](t)(fcirc.Side(f, z))
			if side != must[int](t)(circ.Side(c, p)) {
				t.Fatalf("Side(%v, %v): %d", f, z, side)
			}
			told[side+1]++
			wantExactCentre(t, c, f)
		}
	}
	for k, n := range told {
		if n < 1000 {
			t.Errorf("only %d times the side %d", n, k-1)
		}
	}
}

func wantExactCentre(t *testing.T, c api.Circle, f api.FCircle) {
	t.Helper()
	p := must[api.Point](t)(circ.Centre(c))
	z, e := fcirc.Centre(f)
	if p.Inf {
		if e != api.ErrZero || !like(z, 0) {
			t.Fatalf("Centre(%v): %v, %v", f, z, e)
		}
		return
	}
	if e != api.OK || p.Z != (api.Gauss{Re: fraction(exactly(real(z))), Im: fraction(exactly(imag(z)))}) {
		t.Fatalf("Centre(%v): %v, %v", f, z, e)
	}
}

// made brings a circle by floats into its one form, exactly.
func made(t *testing.T, f api.FCircle) api.Circle {
	t.Helper()
	b := api.Gauss{Re: fraction(exactly(real(f.B))), Im: fraction(exactly(imag(f.B)))}
	return must[api.Circle](t)(circ.Make(fraction(exactly(f.A)), b, fraction(exactly(f.C))))
}

func TestThroughWholePoints(t *testing.T) { // P12.7
	r := rand.New(rand.NewSource(1272))
	told := [3]int{}
	for _, bound := range []int64{1, 3, 40, 1 << 10} {
		for range 3000 {
			var l [3]complex128
			var exact [3]api.Point
			for k := range l {
				x, y := upTo(r, bound), upTo(r, bound)
				l[k], exact[k] = complex(float64(x), float64(y)), api.Point{Z: small(x, y)}
			}
			f, e := fcirc.Through(l[0], l[1], l[2])
			c, exactE := circ.Through(exact[0], exact[1], exact[2])
			if exactE != api.OK { // two are the same
				wantNone(t, "Through twins", f, e, api.ErrZero)
				told[0]++
				continue
			}
			if e != api.OK || made(t, f) != c {
				t.Fatalf("Through(%v): %v, %v", l, f, e)
			}
			for _, z := range l {
				if v := fcirc.Value(f, z); v != 0 {
					t.Fatalf("Through(%v): %v, whose value at %v is %v", l, f, z, v)
				}
			}
			if f.A == 0 {
				told[1]++
			} else {
				told[2]++
			}
		}
	}
	for k, n := range told {
		if n < 300 {
			t.Errorf("only %d of kind %d", n, k)
		}
	}
}

func TestImageByOne(t *testing.T) { // P12.7
	one := api.FMob{A: 1, D: 1}
	asked := 0
	circles(func(f api.FCircle) {
		if !finiteUpTo(f, 4) {
			return
		}
		asked++
		// Go's == takes noughts of either sign for the same.
		if got := fcirc.Image(one, f); got != f {
			t.Fatalf("Image by 1, 0, 0, 1 of %v: %v", f, got)
		}
	})
	if asked < 10000 {
		t.Errorf("asked only %d times", asked)
	}
}

// Of small whole numbers nothing is rounded: the image is the one of layer 11.
func TestImageIsExactOfSmallNumbers(t *testing.T) { // P12.5, P0.3
	r := rand.New(rand.NewSource(1273))
	asked := 0
	for range 6000 {
		k, _, _ := smallRing(r, 9)
		var l [4]complex128
		var n [4]api.Gauss
		for j := range l {
			x, y := upTo(r, 5), upTo(r, 5)
			l[j], n[j] = complex(float64(x), float64(y)), small(x, y)
		}
		turns := r.Intn(2) == 0
		exact, e := mob.Make(n[0], n[1], n[2], n[3], turns)
		if e != api.OK || !k.mayBe() {
			continue
		}
		asked++
		f := must[api.FCircle](t)(fcirc.Of(k.circle()))
		got := fcirc.Image(api.FMob{A: l[0], B: l[1], C: l[2], D: l[3], Turns: turns}, f)
		if made(t, got) != must[api.Circle](t)(circ.Image(exact, k.circle())) {
			t.Fatalf("Image by %v (turns: %v) of %v: %v", l, turns, f, got)
		}
	}
	if asked < 2000 {
		t.Errorf("asked only %d times", asked)
	}
}

// What Points tells lies on the circle, but for what is rounded.
func TestPointsLieOnIt(t *testing.T) { // P12.6
	for _, f := range []api.FCircle{unit(), circle(2, -6+8i, 0), circle(-3, 1-2i, 7)} {
		var last complex128
		for k, z := range mustPoints(t, f, 64) {
			if v := fcirc.Value(f, z); math.Abs(v) > 1e-12 {
				t.Errorf("%v of %v: %v", z, f, v)
			}
			if k > 0 && z == last {
				t.Errorf("%v of %v is told twice", z, f)
			}
			last = z
		}
	}
}

// What is handed in by value stays, and what is asked again comes out alike.
func TestAgain(t *testing.T) { // P12.7
	m := api.FMob{A: 1 + 2i, B: 0.3, C: -1i, D: 4, Turns: true}
	circlesAndNumbers(func(f api.FCircle, z complex128) {
		if !alike(fcirc.Value(f, z), fcirc.Value(f, z)) || !fcirc.Like(fcirc.Image(m, f), fcirc.Image(m, f)) {
			t.Fatalf("asked again of %v at %v", f, z)
		}
	})
}
