package fcirc_test

import (
	"math"
	"math/rand"
	"testing"

	"tracery/api"
	"tracery/fcirc"
)

// throughOf is P12.4, word by word.
func throughOf(p, q, r complex128) (api.FCircle, api.Errno) {
	for _, x := range []float64{real(p), imag(p), real(q), imag(q), real(r), imag(r)} {
		if !isFinite(x) {
			return api.FCircle{}, api.ErrFloat
		}
	}
	a, b := differenceOf(q, p), differenceOf(r, p)
	out := api.FCircle{A: crossOf(a, b)}
	g := differenceOf(scaledOf(b, squareOf(a)), scaledOf(a, squareOf(b)))
	e := scaledOf(complex(imag(g), real(g)), -0.5)
	out.B = differenceOf(e, scaledOf(conjugateOf(p), out.A))
	v := real(productOf(e, p))
	out.C = minus(times(out.A, squareOf(p)), plus(v, v))
	if isNought(out.A) && isNought(real(out.B)) && isNought(imag(out.B)) {
		return api.FCircle{}, api.ErrZero
	}
	return out, api.OK
}

func wantThrough(t *testing.T, p, q, r complex128) api.Errno {
	t.Helper()
	want, wantE := throughOf(p, q, r)
	f, e := fcirc.Through(p, q, r)
	if e != wantE || !likeCircles(f, want) {
		t.Fatalf("Through(%v, %v, %v): %v, %v, not %v, %v", p, q, r, f, e, want, wantE)
	}
	return e
}

func TestThroughExamples(t *testing.T) { // P12.4
	n, inf, nan := minusNought(), math.Inf(1), math.NaN()
	for _, x := range []struct {
		p, q, r complex128
		want    api.FCircle
		e       api.Errno
	}{
		{1, 1i, -1, circle(2, 0, -2), api.OK},
		{-1, 1i, 1, circle(-2, 0, 2), api.OK},
		{0, 1, 2, circle(0, 1i, 0), api.OK},
		{0, 1, 1i, circle(1, complex(-0.5, 0.5), 0), api.OK},
		{1i, 1 + 1i, -1 + 1i, circle(0, 1i, 2), api.OK},
		// All, or two of them, are the same.
		{0, 0, 0, api.FCircle{}, api.ErrZero},
		{3 + 4i, 3 + 4i, 3 + 4i, api.FCircle{}, api.ErrZero},
		{3 + 4i, 3 + 4i, 5, api.FCircle{}, api.ErrZero},
		{3 + 4i, 5, 3 + 4i, api.FCircle{}, api.ErrZero},
		{5, 3 + 4i, 3 + 4i, api.FCircle{}, api.ErrZero},
		{0, complex(n, n), 1, api.FCircle{}, api.ErrZero},
		// So near, or so small, that the formula tells nothing of them.
		{0, 0x1p-600, 0x1p-600i, api.FCircle{}, api.ErrZero},
		{0, 0x1p-400, 0x1p-399, api.FCircle{}, api.ErrZero},
		{1e300, 1e300 + 1, 1e300 + 2, api.FCircle{}, api.ErrZero},
		{complex(inf, 0), 0, 0, api.FCircle{}, api.ErrFloat},
		{complex(0, -inf), 0, 0, api.FCircle{}, api.ErrFloat},
		{0, complex(nan, 0), 1, api.FCircle{}, api.ErrFloat},
		{0, complex(0, inf), 1, api.FCircle{}, api.ErrFloat},
		{0, 1, complex(-inf, 0), api.FCircle{}, api.ErrFloat},
		{0, 1, complex(0, loud()), api.FCircle{}, api.ErrFloat},
	} {
		// But for the signs of noughts: these the formulas tell.
		if f, e := fcirc.Through(x.p, x.q, x.r); f != x.want || e != x.e {
			t.Errorf("Through(%v, %v, %v): %v, %v, not %v, %v", x.p, x.q, x.r, f, e, x.want, x.e)
		}
		wantThrough(t, x.p, x.q, x.r)
	}
}

// Noughts as they come, by the formulas done by hand.
func TestThroughNoughts(t *testing.T) { // P12.4
	n := minusNought()
	for _, x := range []struct {
		p, q, r complex128
		want    api.FCircle
	}{
		{1, 1i, -1, circle(2, complex(0, 0), -2)},
		{0, 1, 2, circle(0, complex(n, 1), 0)},
		{0, 2, 1, circle(0, complex(n, -1), 0)},
	} {
		f, e := fcirc.Through(x.p, x.q, x.r)
		if e != api.OK {
			t.Fatal(e)
		}
		wantCircle(t, "Through", f, x.want)
	}
}

// Of finite points what is told need not be finite.
func TestThroughTooGreat(t *testing.T) { // P12.4
	f, e := fcirc.Through(0, 0x1p1000, 0x1p1000i)
	if e != api.OK || !math.IsInf(f.A, 1) || isFinite(real(f.B)) {
		t.Errorf("Through: %v, %v", f, e)
	}
	f, e = fcirc.Through(0x1p600, 0x1p600i, 0)
	if e != api.OK || !isNaN(f.C) {
		t.Errorf("Through: %v, %v", f, e)
	}
	// A NaN is not 0.
	f, e = fcirc.Through(0, 0x1p600+0x1p600i, 0x1p600+0x1p600i)
	if e != api.OK || !isNaN(f.A) {
		t.Errorf("Through: %v, %v", f, e)
	}
}

func TestThroughMany(t *testing.T) { // P12.4
	told := map[api.Errno]int{}
	l := []complex128{0, 1, 1i, -1, 2, complex(0, minusNought()), 1 + 0x1p-52i, 0x1p-1074, 0x1p-537i, 0x1p-360, 0x1p350 + 0x1p360i, 0x1p600, -0x1p1023i, math.MaxFloat64, complex(math.Inf(1), 0), complex(1, math.NaN())}
	for _, p := range l {
		for _, q := range l {
			for _, r := range l {
				told[wantThrough(t, p, q, r)]++
			}
		}
	}
	r := rand.New(rand.NewSource(124))
	for _, part := range kinds() {
		for range 20000 {
			p, q := numberOf(r, part), numberOf(r, part)
			told[wantThrough(t, p, q, numberOf(r, part))]++
			told[wantThrough(t, p, q, q)]++
			told[wantThrough(t, p, q, sumOf(q, differenceOf(q, p)))]++
		}
	}
	for _, e := range []api.Errno{api.OK, api.ErrFloat, api.ErrZero} {
		if told[e] < 1000 {
			t.Errorf("only %d times %v", told[e], e)
		}
	}
}
