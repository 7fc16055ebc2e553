package fcirc_test

import (
	"math"
	"testing"

	"tracery/api"
	"tracery/fcirc"
)

// centreOf and radiusOf are P12.2, word by word.
func centreOf(f api.FCircle) (complex128, api.Errno) {
	if !finiteUpTo(f, 3) {
		return 0, api.ErrFloat
	}
	if isNought(f.A) {
		return 0, api.ErrZero
	}
	return complex(over(opposite(real(f.B)), f.A), over(imag(f.B), f.A)), api.OK
}

func radiusOf(f api.FCircle) (float64, api.Errno) {
	if !finiteUpTo(f, 4) {
		return 0, api.ErrFloat
	}
	if isNought(f.A) {
		return 0, api.ErrZero
	}
	p := powerOf(f)
	if !isNaN(p) && !isNought(p) && bits(p)&signBit != 0 {
		return 0, api.ErrNone
	}
	magnitude := f.A
	if bits(f.A)&signBit != 0 {
		magnitude = opposite(f.A)
	}
	return over(math.Sqrt(p), magnitude), api.OK
}

func TestCentreExamples(t *testing.T) { // P12.2
	n, nan, inf := minusNought(), math.NaN(), math.Inf(1)
	for _, x := range []struct {
		f    api.FCircle
		want complex128
		e    api.Errno
	}{
		{unit(), complex(n, 0), api.OK},
		{circle(1, complex(n, n), -1), complex(0, n), api.OK},
		{circle(-1, 0, -1), complex(0, n), api.OK},
		{circle(1, -3+4i, 0), 3 + 4i, api.OK},
		{circle(-2, 1-3i, 5), 0.5 + 1.5i, api.OK},
		{circle(3, 1+1i, 0), complex(-over(1, 3), over(1, 3)), api.OK},
		{circle(0, 1, 0), 0, api.ErrZero},
		{circle(n, 1, 0), 0, api.ErrZero},
		{api.FCircle{}, 0, api.ErrZero},
		// C has no say in it.
		{circle(1, -3+4i, nan), 3 + 4i, api.OK},
		{circle(1, -3+4i, inf), 3 + 4i, api.OK},
		{circle(0, 1, nan), 0, api.ErrZero},
		// Nor has the Power: quotients may be infinite.
		{circle(1, -1, 1), complex(1, 0), api.OK},
		{circle(0x1p-1074, complex(1, -1), 1), complex(-inf, -inf), api.OK},
		{circle(0x1p1023, complex(0x1p-1074, 0x1p-60), 1), complex(n, 0), api.OK},
		{circle(nan, 1, 0), 0, api.ErrFloat},
		{circle(-inf, 1, 0), 0, api.ErrFloat},
		{circle(1, complex(nan, 0), 0), 0, api.ErrFloat},
		{circle(1, complex(0, inf), 0), 0, api.ErrFloat},
		// ErrFloat stands ahead of ErrZero.
		{circle(0, complex(0, nan), 0), 0, api.ErrFloat},
		{circle(n, complex(-inf, 0), 0), 0, api.ErrFloat},
	} {
		if z, e := fcirc.Centre(x.f); !like(z, x.want) || e != x.e {
			t.Errorf("Centre(%v): %v, %v, not %v, %v", x.f, z, e, x.want, x.e)
		}
	}
}

func TestCentreMany(t *testing.T) { // P12.2
	told := map[api.Errno]int{}
	circles(func(f api.FCircle) {
		want, wantE := centreOf(f)
		if z, e := fcirc.Centre(f); !like(z, want) || e != wantE {
			t.Fatalf("Centre(%v): %v, %v, not %v, %v", f, z, e, want, wantE)
		}
		told[wantE]++
	})
	for _, e := range []api.Errno{api.OK, api.ErrFloat, api.ErrZero} {
		if told[e] < 1000 {
			t.Errorf("only %d times %v", told[e], e)
		}
	}
}

func TestRadiusExamples(t *testing.T) { // P12.2
	n, nan, inf := minusNought(), math.NaN(), math.Inf(1)
	for _, x := range []struct {
		f    api.FCircle
		want float64
		e    api.Errno
	}{
		{unit(), 1, api.OK},
		{circle(-1, 0, 1), 1, api.OK},
		{circle(2, 0, -2), 1, api.OK},
		{circle(1, -3-4i, 21), 2, api.OK},
		{circle(-2, 3+4i, -12), 0.5, api.OK},
		{circle(1, 0, -2), math.Sqrt2, api.OK},
		{circle(3, 0, -1), over(math.Sqrt(3), 3), api.OK},
		// A Power of 0 has the root +0.
		{circle(1, 0, 0), 0, api.OK},
		{circle(-1, 0, 0), 0, api.OK},
		{circle(-1, 0, n), 0, api.OK},
		{circle(1, 3+4i, 25), 0, api.OK},
		{circle(0x1p-600, 0, -0x1p-600), 0, api.OK},
		{circle(0x1p-600, 0, 0x1p-600), 0, api.OK},
		// An infinity and a NaN go on as they are.
		{circle(1, 0x1p600, 1), inf, api.OK},
		{circle(-1, 0x1p600, 1), inf, api.OK},
		{circle(0x1p600, 0, -0x1p600), inf, api.OK},
		{circle(0x1p600, 0x1p600, 0x1p600), nan, api.OK},
		{circle(-0x1p600, 0x1p600i, -0x1p600), nan, api.OK},
		{circle(0x1p-1074, 1, 0), inf, api.OK},
		{circle(1, 0, 1), 0, api.ErrNone},
		{circle(-1, 0, -1), 0, api.ErrNone},
		{circle(0x1p600, 0, 0x1p600), 0, api.ErrNone},
		{circle(0x1p-537, 0, 0x1p-537), 0, api.ErrNone},
		{circle(0, 1, 0), 0, api.ErrZero},
		{circle(n, 1, 0), 0, api.ErrZero},
		{api.FCircle{}, 0, api.ErrZero},
		{circle(nan, 1, 0), 0, api.ErrFloat},
		{circle(inf, 1, 0), 0, api.ErrFloat},
		{circle(1, complex(nan, 0), 0), 0, api.ErrFloat},
		{circle(1, complex(0, -inf), 0), 0, api.ErrFloat},
		{circle(1, 0, nan), 0, api.ErrFloat},
		{circle(1, 0, -inf), 0, api.ErrFloat},
		// ErrFloat stands ahead of ErrZero, and of ErrNone.
		{circle(0, 1, nan), 0, api.ErrFloat},
		{circle(n, complex(0, inf), 0), 0, api.ErrFloat},
		{circle(1, 0, inf), 0, api.ErrFloat},
	} {
		if r, e := fcirc.Radius(x.f); !alike(r, x.want) || e != x.e {
			t.Errorf("Radius(%v): %v, %v, not %v, %v", x.f, r, e, x.want, x.e)
		}
	}
}

func TestRadiusMany(t *testing.T) { // P12.2
	told := map[api.Errno]int{}
	circles(func(f api.FCircle) {
		want, wantE := radiusOf(f)
		if r, e := fcirc.Radius(f); !alike(r, want) || e != wantE {
			t.Fatalf("Radius(%v): %v, %v, not %v, %v", f, r, e, want, wantE)
		}
		told[wantE]++
	})
	for _, e := range []api.Errno{api.OK, api.ErrFloat, api.ErrZero, api.ErrNone} {
		if told[e] < 1000 {
			t.Errorf("only %d times %v", told[e], e)
		}
	}
}
