package cplx_test

import (
	"math"
	"testing"

	"tracery/api"
	"tracery/cplx"
)

func TestAbs(t *testing.T) { // P5.3
	ones(func(z complex128) { wantAlike(t, "Abs", cplx.Abs(z), magnitudeOf(z)) })
	minus, nan, inf := minusNought(), math.NaN(), math.Inf(1)
	for _, c := range []struct {
		z    complex128
		want float64
	}{
		{3 - 4i, 5}, {-4 + 3i, 5}, {complex(nan, inf), inf}, {complex(math.Inf(-1), nan), inf}, {complex(inf, 1), inf}, {complex(1, -inf), inf},
		{complex(nan, 0), nan}, {complex(0, nan), nan}, {complex(nan, nan), nan},
		{complex(minus, minus), 0}, {complex(0, minus), 0}, {complex(minus, -2), 2}, {-7, 7},
		{complex(1e300, 1e300), 1e300 * math.Sqrt(2)}, {complex(3e-320, -4e-320), 5e-320},
		{complex(math.MaxFloat64, math.MaxFloat64), inf}, {complex(math.MaxFloat64, 1), math.MaxFloat64}, {complex(0, 0x1p-1074), 0x1p-1074},
	} {
		if x := cplx.Abs(c.z); !alike(x, c.want) {
			t.Errorf("Abs(%v): %v, not %v", c.z, x, c.want)
		}
	}
}

func TestSqrt(t *testing.T) { // P5.4
	ones(func(z complex128) {
		got, e := cplx.Sqrt(z)
		if isNaN(real(z)) || isNaN(imag(z)) || isInf(real(z)) || isInf(imag(z)) {
			if e != api.ErrFloat || !like(got, 0) {
				t.Errorf("Sqrt(%v): %v, %v", z, got, e)
			}
			return
		}
		if want := rootOf(z); !like(got, want) || e != api.OK {
			t.Errorf("Sqrt(%v): %v, %v, not %v", z, got, e, want)
		}
	})
}

func TestSqrtAtExamples(t *testing.T) { // P5.4
	minus, inf, nan := minusNought(), math.Inf(1), math.NaN()
	for _, c := range []struct {
		z, want complex128
	}{
		{-4, 2i}, {complex(-4, minus), complex(0, -2)}, {4, 2}, {complex(4, minus), complex(2, minus)},
		{0, 0}, {complex(minus, 0), 0}, {complex(0, minus), complex(0, minus)}, {complex(minus, minus), complex(0, minus)},
		{3 + 4i, 2 + 1i}, {3 - 4i, 2 - 1i}, {-3 + 4i, 1 + 2i}, {-3 - 4i, 1 - 2i},
		{2i, 1 + 1i}, {complex(minus, 2), 1 + 1i}, {complex(minus, -2), 1 - 1i},
		// The magnitude is too great for a float.
		{complex(math.MaxFloat64, math.MaxFloat64), complex(inf, 0)},
		{complex(math.MaxFloat64, -math.MaxFloat64), complex(inf, minus)},
		{complex(-math.MaxFloat64, math.MaxFloat64), complex(0, inf)},
		{complex(-math.MaxFloat64, -math.MaxFloat64), complex(0, -inf)},
		// Half of the least float is rounded to 0.
		{0x1p-1074, complex(0, nan)}, {complex(0, 0x1p-1074), complex(0, inf)}, {complex(0, -0x1p-1074), complex(0, -inf)},
		{complex(-0x1p-1074, minus), complex(nan, minus)}, {complex(-0x1p-1074, -0x1p-1074), complex(inf, minus)},
	} {
		if x, e := cplx.Sqrt(c.z); !like(x, c.want) || e != api.OK {
			t.Errorf("Sqrt(%v): %v, %v, not %v", c.z, x, e, c.want)
		}
	}
	for _, x := range append(nans(), inf, -inf) {
		for _, z := range []complex128{complex(x, 0), complex(0, x), complex(x, x), complex(x, -1), complex(-1, x)} {
			if w, e := cplx.Sqrt(z); !like(w, 0) || e != api.ErrFloat {
				t.Errorf("Sqrt(%v): %v, %v", z, w, e)
			}
		}
	}
}
