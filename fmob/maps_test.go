package fmob_test

import (
	"math"
	"testing"

	"tracery/api"
	"tracery/fmob"
)

// composedOf and inverseOf are P9.3, word by word.
func composedOf(f, g api.FMob) api.FMob {
	a, b, c, d := g.A, g.B, g.C, g.D
	if f.Turns {
		a, b, c, d = conjugateOf(a), conjugateOf(b), conjugateOf(c), conjugateOf(d)
	}
	return api.FMob{
		A:     sumOf(productOf(f.A, a), productOf(f.B, c)),
		B:     sumOf(productOf(f.A, b), productOf(f.B, d)),
		C:     sumOf(productOf(f.C, a), productOf(f.D, c)),
		D:     sumOf(productOf(f.C, b), productOf(f.D, d)),
		Turns: f.Turns && !g.Turns || g.Turns && !f.Turns,
	}
}

func inverseOf(f api.FMob) api.FMob {
	out := api.FMob{A: f.D, B: negativeOf(f.B), C: negativeOf(f.C), D: f.A, Turns: f.Turns}
	if f.Turns {
		out.A, out.B, out.C, out.D = conjugateOf(out.A), conjugateOf(out.B), conjugateOf(out.C), conjugateOf(out.D)
	}
	return out
}

func TestComposeExamples(t *testing.T) { // P9.3
	f, g, bar := plain(1, 1i, 0, 1), plain(0, 1, 1, 0), turning(1, 0, 0, 1)
	for _, x := range []struct{ f, g, want api.FMob }{
		{f, g, plain(1i, 1, 1, 0)},
		{g, f, plain(0, 1, 1, 1i)},
		{bar, f, turning(1, -1i, 0, 1)},
		{f, bar, turning(1, 1i, 0, 1)},
		{bar, bar, plain(1, 0, 0, 1)},
		{plain(1, 2, 3, 4), plain(5, 6, 7, 8), plain(19, 22, 43, 50)},
	} {
		// But for the signs of noughts: these the formulas tell.
		if got := fmob.Compose(x.f, x.g); got != x.want {
			t.Errorf("Compose(%v, %v): %v, not %v", x.f, x.g, got, x.want)
		}
	}
}

func TestComposeMany(t *testing.T) { // P9.3
	pairsOfMaps(func(f, g api.FMob) {
		wantMap(t, "Compose", fmob.Compose(f, g), composedOf(f, g))
	})
}

func TestInverse(t *testing.T) { // P9.3
	n := minusNought()
	for _, x := range []struct{ f, want api.FMob }{
		{plain(1, 1i, 0, 1), plain(1, complex(n, -1), complex(n, n), 1)},
		{turning(1, 1i, 0, 1), turning(complex(1, n), complex(n, 1), complex(n, 0), complex(1, n))},
		{plain(2, 3, 5i, 7), plain(7, complex(-3, n), complex(n, -5), 2)},
		{turning(complex(1, 2), complex(3, 4), complex(5, 6), complex(7, 8)), turning(complex(7, -8), complex(-3, 4), complex(-5, 6), complex(1, -2))},
		{plain(complex(math.NaN(), 1), 0, complex(math.Inf(1), n), 1), plain(1, complex(n, n), complex(math.Inf(-1), 0), complex(math.NaN(), 1))},
	} {
		wantMap(t, "Inverse", fmob.Inverse(x.f), x.want)
	}
	maps(func(f api.FMob) { wantMap(t, "Inverse", fmob.Inverse(f), inverseOf(f)) })
}

func TestDet(t *testing.T) { // P9.3
	wantNumber(t, "of the example", fmob.Det(plain(1, 1i, 0, 1)), 1)
	wantNumber(t, "of four", fmob.Det(plain(1i, 2, 3, 5)), complex(-6, 5))
	wantNumber(t, "of one that turns", fmob.Det(turning(1i, 2, 3, 5)), complex(-6, 5))
	// The products are rounded, each by itself: nothing is left of 2^-104.
	e := complex(1+0x1p-52, 0)
	wantNumber(t, "of a square less a square", fmob.Det(plain(e, 1+0x1p-51, 1, e)), 0)
	maps(func(f api.FMob) {
		wantNumber(t, "Det", fmob.Det(f), differenceOf(productOf(f.A, f.D), productOf(f.B, f.C)))
	})
}

func TestLike(t *testing.T) { // P9.5
	n := minusNought()
	loud := math.Float64frombits(0xfff0000000000001)
	// One change at each of the nine places is told; so are noughts' signs.
	for _, f := range []api.FMob{plain(1, 1i, 0, 1), turning(0, 0, 0, 0), plain(complex(math.NaN(), 0), 1, 1, complex(n, math.Inf(1)))} {
		if !fmob.Like(f, f) {
			t.Errorf("%v is not like itself", f)
		}
		other := f
		other.Turns = !f.Turns
		if fmob.Like(f, other) || fmob.Like(other, f) {
			t.Errorf("%v turns as %v", f, other)
		}
		for k, x := range partsOf(f) {
			for _, y := range []float64{opposite(x), 7, loud, math.Nextafter(x, 9)} {
				l := partsOf(f)
				l[k] = y
				g := fromParts(l, f.Turns)
				if fmob.Like(f, g) != alike(x, y) || fmob.Like(g, f) != alike(x, y) {
					t.Errorf("Like(%v, %v)", f, g)
				}
			}
		}
	}
	if fmob.Like(plain(1, 2, 3, 4), plain(2, 4, 6, 8)) {
		t.Errorf("one and the same map in two forms is like by bits")
	}
	l := namedMaps()
	for _, f := range l {
		for _, g := range l {
			if fmob.Like(f, g) != likeMaps(f, g) {
				t.Fatalf("Like(%v, %v): not %v", f, g, likeMaps(f, g))
			}
		}
	}
}
