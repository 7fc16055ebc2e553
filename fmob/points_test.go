package fmob_test

import (
	"iter"
	"math"
	"math/rand"
	"slices"
	"testing"

	"tracery/api"
	"tracery/fmob"
)

// belowOf is d of P9.2: what is below the line.
func belowOf(f api.FMob, z complex128) complex128 {
	if f.Turns {
		z = conjugateOf(z)
	}
	return sumOf(productOf(f.C, z), f.D)
}

// atOf is P9.2, word by word.
func atOf(f api.FMob, p api.FPoint) api.FPoint {
	if p.Inf {
		if isNought(f.C) {
			return infinity()
		}
		return at(quotientOf(f.A, f.C))
	}
	w := p.Z
	if f.Turns {
		w = conjugateOf(p.Z)
	}
	d := belowOf(f, p.Z)
	if isNought(d) {
		return infinity()
	}
	return at(quotientOf(sumOf(productOf(f.A, w), f.B), d))
}

func TestAtExamples(t *testing.T) { // P9.2
	f, g, bar := plain(1, 1i, 0, 1), plain(0, 1, 1, 0), turning(1, 0, 0, 1)
	n := minusNought()
	for _, x := range []struct {
		f       api.FMob
		p, want api.FPoint
	}{
		{f, at(2), at(2 + 1i)},
		{g, at(0), infinity()},
		{g, at(complex(n, n)), infinity()},
		{g, infinity(), at(0)},
		{f, infinity(), infinity()},
		{bar, at(1 + 2i), at(1 - 2i)},
		// Whatever stands beside Inf.
		{g, api.FPoint{Inf: true, Z: 7}, at(0)},
		{f, api.FPoint{Inf: true, Z: complex(math.NaN(), 1)}, infinity()},
		// Noughts of either sign are 0.
		{plain(1, 1, complex(n, 0), 1), infinity(), infinity()},
		{plain(1, 1, complex(0, n), 1), infinity(), infinity()},
		{plain(1, 1, complex(n, n), 1), infinity(), infinity()},
		{plain(0, 0, 0, 0), at(1), infinity()},
		{plain(1, 0, 1, -1i), at(1i), infinity()},
		{turning(1, 0, 1, -1i), at(-1i), infinity()},
		{turning(1, 0, 1, -1i), at(1i), at(complex(0.5, 0))},
		// Infinity goes to A / C, turned or not.
		{turning(1i, 0, 1, 0), infinity(), at(1i)},
		// Products that get too small are 0, and then infinity is told.
		{plain(1, 1, 0x1p-600, 0), at(0x1p-600), infinity()},
	} {
		wantPoint(t, "At", fmob.At(x.f, x.p), x.want)
		wantPoint(t, "what is wanted", atOf(x.f, x.p), x.want)
	}
}

func TestAtMany(t *testing.T) { // P9.2
	told := [3]int{}
	mapsAndPoints(func(f api.FMob, p api.FPoint) {
		want := atOf(f, p)
		wantPoint(t, "At", fmob.At(f, p), want)
		switch {
		case want.Inf:
			told[0]++
		case isNaN(real(want.Z)):
			told[1]++
		default:
			told[2]++
		}
	})
	for k, n := range told {
		if n < 1000 {
			t.Errorf("only %d of kind %d", n, k)
		}
	}
}

func TestSlope(t *testing.T) { // P9.4
	wantNumber(t, "of the example", fmob.Slope(plain(0, 1, 1, 0), 2), quotientOf(-1, 4))
	if s := fmob.Slope(plain(0, 1, 1, 0), 2); s != -0.25 {
		t.Errorf("of the example: %v", s)
	}
	if s := fmob.Slope(turning(1, 0, 1, 1i), 1i); !isNaN(real(s)) {
		t.Errorf("at the pole: %v", s)
	}
	if s := fmob.Slope(plain(1, 0, 1, 1i), 1i); s != quotientOf(1i, -4) {
		t.Errorf("%v", s)
	}
	mapsAndPoints(func(f api.FMob, p api.FPoint) {
		d := belowOf(f, p.Z)
		want := quotientOf(differenceOf(productOf(f.A, f.D), productOf(f.B, f.C)), productOf(d, d))
		wantNumber(t, "Slope", fmob.Slope(f, p.Z), want)
	})
}

// first takes so many points of what goes on without end.
func first(s iter.Seq[api.FPoint], n int) []api.FPoint {
	var l []api.FPoint
	for p := range s {
		if len(l) == n {
			break
		}
		l = append(l, p)
	}
	return l
}

func wantPoints(t *testing.T, what string, got, want []api.FPoint) {
	t.Helper()
	if !slices.EqualFunc(got, want, likePoints) {
		t.Fatalf("%s: %v, not %v", what, got, want)
	}
}

func orbitOf(f api.FMob, p api.FPoint, n int) []api.FPoint {
	if p.Inf {
		p.Z = 0
	}
	var l []api.FPoint
	for range n {
		l = append(l, p)
		p = atOf(f, p)
	}
	return l
}

func TestOrbitExamples(t *testing.T) { // P9.5
	wantPoints(t, "i more each time", first(fmob.Orbit(plain(1, 1i, 0, 1), at(0)), 3), []api.FPoint{at(0), at(1i), at(2i)})
	g := plain(0, 1, 1, 0)
	wantPoints(t, "to and fro", first(fmob.Orbit(g, at(0)), 5), []api.FPoint{at(0), infinity(), at(0), infinity(), at(0)})
	odd := api.FPoint{Inf: true, Z: complex(minusNought(), math.NaN())}
	wantPoints(t, "from infinity", first(fmob.Orbit(g, odd), 3), []api.FPoint{infinity(), at(0), infinity()})
	wantPoints(t, "infinity alone", first(fmob.Orbit(plain(1, 1i, 0, 1), odd), 3), []api.FPoint{infinity(), infinity(), infinity()})
	n := minusNought()
	wantPoints(t, "a nought handed in", first(fmob.Orbit(g, at(complex(n, n))), 1), []api.FPoint{at(complex(n, n))})
}

func TestOrbitIsEndless(t *testing.T) { // P9.5
	n := 0
	for range fmob.Orbit(plain(1, 1, 0, 1), at(0)) {
		n++
		if n > 3*api.MaxList {
			return
		}
	}
	t.Errorf("it ends behind %d", n)
}

func TestOrbitMany(t *testing.T) { // P9.5
	r := rand.New(rand.NewSource(95))
	for _, part := range kinds() {
		for range 1000 {
			f, p := mapOf(r, part), pointOf(r, part)
			wantPoints(t, "Orbit", first(fmob.Orbit(f, p), 6), orbitOf(f, p, 6))
		}
	}
}

func TestOrbitAnew(t *testing.T) { // P9.5: left at any time, gone through again
	f, p := plain(0, 1, 1, 1i), at(1)
	s := fmob.Orbit(f, p)
	for n := range 9 {
		wantPoints(t, "one more", first(s, n), orbitOf(f, p, n))
	}
	for q := range s { // one inside the other
		wantPoint(t, "the outer one", q, p)
		wantPoints(t, "the inner one", first(s, 5), orbitOf(f, p, 5))
		break
	}
	next, stop := iter.Pull(s)
	other, stopOther := iter.Pull(s)
	defer stop()
	defer stopOther()
	for k, want := range orbitOf(f, p, 20) {
		q, _ := next()
		wantPoint(t, "one of two at once", q, want)
		if k%2 == 0 {
			q, _ = other()
			wantPoint(t, "the other one", q, orbitOf(f, p, k/2+1)[k/2])
		}
	}
}

func TestRunExamples(t *testing.T) { // P9.5
	f, g, bar := plain(1, 1i, 0, 1), plain(0, 1, 1, 0), turning(1, 0, 0, 1)
	n := minusNought()
	for _, x := range []struct {
		p    api.FPoint
		l    []api.FMob
		want api.FPoint
	}{
		{at(complex(n, n)), nil, at(complex(n, n))},
		{at(3), []api.FMob{}, at(3)},
		{api.FPoint{Inf: true, Z: 3}, nil, infinity()},
		{api.FPoint{Inf: true, Z: complex(n, math.Inf(1))}, []api.FMob{}, infinity()},
		{api.FPoint{Inf: true, Z: 3}, []api.FMob{g}, at(0)},
		{at(0), []api.FMob{f, g, f}, at(0)},
		{at(2), []api.FMob{f}, at(2 + 1i)},
		{at(2), []api.FMob{f, bar}, at(2 - 1i)},
		{at(2), []api.FMob{bar, f}, at(complex(2, 1))},
		{at(0), []api.FMob{g, f}, infinity()},
		{at(0), []api.FMob{f, g}, at(-1i)},
	} {
		wantPoint(t, "Run", fmob.Run(x.p, x.l...), x.want)
	}
}

func TestRunMany(t *testing.T) { // P9.5, P9.6
	r := rand.New(rand.NewSource(96))
	for _, part := range kinds() {
		for range 1000 {
			var l []api.FMob
			for range r.Intn(6) {
				l = append(l, mapOf(r, part))
			}
			kept := slices.Clone(l)
			p := pointOf(r, part)
			want, one := orbitOf(api.FMob{}, p, 1)[0], p
			for _, f := range l {
				want, one = atOf(f, want), fmob.At(f, one)
			}
			got := fmob.Run(p, l...)
			wantPoint(t, "Run", got, want)
			if len(l) > 0 {
				wantPoint(t, "one by one", got, one)
			}
			if !slices.EqualFunc(l, kept, likeMaps) {
				t.Fatalf("what was handed in has changed")
			}
		}
	}
	slides := slices.Repeat([]api.FMob{plain(1, 1, 0, 1)}, 5*api.MaxList)
	wantPoint(t, "a long list", fmob.Run(at(0), slides...), at(complex(5*api.MaxList, 0)))
}

func TestSame(t *testing.T) { // P9.5
	n, nan := minusNought(), math.NaN()
	loud := math.Float64frombits(0xfff0000000000001)
	for _, x := range []struct {
		p, q api.FPoint
		want bool
	}{
		{at(0), at(0), true},
		{at(1 + 2i), at(1 + 2i), true},
		{at(1 + 2i), at(1 - 2i), false},
		{at(1 + 2i), at(2 + 2i), false},
		{at(0), at(complex(n, 0)), false},
		{at(0), at(complex(0, n)), false},
		{at(complex(n, n)), at(complex(n, n)), true},
		{at(complex(nan, 1)), at(complex(loud, 1)), true},
		{at(complex(nan, 1)), at(complex(nan, 2)), false},
		{at(complex(1, nan)), at(complex(nan, 1)), false},
		{at(complex(nan, nan)), at(complex(nan, loud)), true},
		{infinity(), infinity(), true},
		{infinity(), api.FPoint{Inf: true, Z: 5}, true},
		{api.FPoint{Inf: true, Z: complex(n, nan)}, api.FPoint{Inf: true, Z: 5}, true},
		{infinity(), at(0), false},
		{api.FPoint{Inf: true, Z: 5}, at(5), false},
		{infinity(), at(complex(math.Inf(1), 0)), false},
		{at(complex(math.Inf(1), 0)), at(complex(math.Inf(1), 0)), true},
		{at(complex(math.Inf(1), 0)), at(complex(math.Inf(-1), 0)), false},
	} {
		if fmob.Same(x.p, x.q) != x.want || fmob.Same(x.q, x.p) != x.want {
			t.Errorf("Same(%v, %v): not %v", x.p, x.q, x.want)
		}
	}
	l := namedPoints()
	for _, p := range l {
		for _, q := range l {
			want := p.Inf && q.Inf || !p.Inf && !q.Inf && like(p.Z, q.Z)
			if fmob.Same(p, q) != want {
				t.Fatalf("Same(%v, %v): not %v", p, q, want)
			}
		}
	}
}
