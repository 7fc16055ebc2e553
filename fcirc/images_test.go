package fcirc_test

import (
	"math"
	"math/rand"
	"testing"

	"tracery/api"
	"tracery/fcirc"
)

// imageOf is P12.5, word by word.
func imageOf(m api.FMob, f api.FCircle) api.FCircle {
	p, q, r, s := m.D, negativeOf(m.B), negativeOf(m.C), m.A
	b := f.B
	if m.Turns {
		b = conjugateOf(f.B)
	}
	v := real(productOf(productOf(b, p), conjugateOf(r)))
	a := plus(plus(times(f.A, squareOf(p)), times(f.C, squareOf(r))), plus(v, v))
	v = real(productOf(productOf(b, q), conjugateOf(s)))
	c := plus(plus(times(f.A, squareOf(q)), times(f.C, squareOf(s))), plus(v, v))
	first := sumOf(scaledOf(productOf(p, conjugateOf(q)), f.A), productOf(productOf(b, p), conjugateOf(s)))
	second := sumOf(productOf(productOf(conjugateOf(b), r), conjugateOf(q)), scaledOf(productOf(r, conjugateOf(s)), f.C))
	return circle(a, sumOf(first, second), c)
}

func TestImageExamples(t *testing.T) { // P12.5
	still, bar := api.FMob{A: 1, D: 1}, api.FMob{A: 1, D: 1, Turns: true}
	over, slide := api.FMob{B: 1, C: 1}, api.FMob{A: 1, B: 1, D: 1}
	for _, x := range []struct {
		m       api.FMob
		f, want api.FCircle
	}{
		{still, circle(1, 2i, 3), circle(1, 2i, 3)},
		{bar, circle(1, 2i, 3), circle(1, -2i, 3)},
		{bar, circle(1, 2+5i, 3), circle(1, 2-5i, 3)},
		{over, circle(1, -2, 3), circle(3, -2, 1)},
		{over, circle(1, -2+1i, 3), circle(3, -2-1i, 1)},
		{over, unit(), circle(-1, 0, 1)},
		{over, circle(0, 1i, 0), circle(0, -1i, 0)},
		// About 1/2 with the radius 1/2: Re z = 1.
		{over, circle(1, -0.5, 0), circle(0, -0.5, 1)},
		{slide, unit(), circle(1, -1, 0)},
		{slide, circle(0, 1, 0), circle(0, 1, -2)},
		{api.FMob{A: 1, B: 1i, D: 1}, unit(), circle(1, 1i, 0)},
		{api.FMob{A: 1, B: 1i, D: 1, Turns: true}, circle(1, 1i, 0), circle(1, 0, -1)},
		// Nothing is brought to 1.
		{api.FMob{A: 2, D: 2}, unit(), circle(4, 0, -4)},
		{api.FMob{A: 3, D: 1}, unit(), circle(1, 0, -9)},
		{api.FMob{A: 1i, D: 1}, circle(1, 2, 3), circle(1, -2i, 3)},
		{api.FMob{A: 1 + 2i, B: 3, C: 1i, D: 4}, circle(1, 0, 0), circle(16, -12, 9)},
		{api.FMob{A: 1 + 2i, B: 3, C: 1i, D: 4}, circle(0, 0, 1), circle(1, complex(-2, -1), 5)},
		// Maps that are none, and circles that are none.
		{api.FMob{}, unit(), api.FCircle{}},
		{slide, api.FCircle{}, api.FCircle{}},
	} {
		// But for the signs of noughts: these the formulas tell.
		if got := fcirc.Image(x.m, x.f); got != x.want {
			t.Errorf("Image(%v, %v): %v, not %v", x.m, x.f, got, x.want)
		}
		wantCircle(t, "Image", fcirc.Image(x.m, x.f), imageOf(x.m, x.f))
	}
}

func TestImageTellsNaNs(t *testing.T) { // P12.5
	nan := math.NaN()
	f := fcirc.Image(api.FMob{A: 1, D: 1}, circle(nan, 0, 1))
	if !isNaN(f.A) || !isNaN(real(f.B)) || !isNaN(f.C) {
		t.Errorf("of A a NaN: %v", f)
	}
	f = fcirc.Image(api.FMob{A: complex(nan, 0), D: 1}, circle(1, 1, 1))
	if f.A != 1 || !isNaN(f.C) {
		t.Errorf("of a map's A a NaN: %v", f)
	}
	f = fcirc.Image(api.FMob{A: 1, D: complex(0x1p600, 0)}, unit())
	if !math.IsInf(f.A, 1) || f.C != -1 {
		t.Errorf("too great: %v", f)
	}
}

// edgeMaps have one edge at each of the eight places, turning and not.
func edgeMaps() []api.FMob {
	l := []api.FMob{{}, {Turns: true}, {A: 1, D: 1}, {B: 1, C: 1, Turns: true}}
	for _, x := range edgeFloats() {
		for _, z := range []complex128{complex(x, 1), complex(1, x), complex(x, 0)} {
			for _, turns := range []bool{false, true} {
				l = append(l,
					api.FMob{A: z, B: 2, C: 3i, D: 1 + 1i, Turns: turns}, api.FMob{A: 2i, B: z, C: 1, D: 1, Turns: turns},
					api.FMob{A: 1, B: 1i, C: z, D: 2, Turns: turns}, api.FMob{A: 1, B: 1 - 1i, C: 0, D: z, Turns: turns})
			}
		}
	}
	return l
}

func TestImageMany(t *testing.T) { // P12.5
	for _, m := range edgeMaps() {
		for _, f := range namedCircles() {
			wantCircle(t, "Image", fcirc.Image(m, f), imageOf(m, f))
		}
	}
	r := rand.New(rand.NewSource(125))
	told := [2]int{}
	for _, part := range kinds() {
		for range 30000 {
			m, f := mapOf(r, part), circleOf(r, part)
			want := imageOf(m, f)
			wantCircle(t, "Image", fcirc.Image(m, f), want)
			if finiteUpTo(want, 4) {
				told[0]++
			} else {
				told[1]++
			}
		}
	}
	if told[0] < 10000 || told[1] < 10000 {
		t.Errorf("asked only %v", told)
	}
}
