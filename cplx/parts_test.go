package cplx_test

import (
	"cmp"
	"math"
	"math/big"
	"math/rand"
	"testing"

	"tracery/cplx"
)

func TestOfAndParts(t *testing.T) { // P5.1
	for _, x := range append(edgeFloats(), nans()...) {
		for _, y := range edgeFloats() {
			z := cplx.Of(x, y)
			if !alike(real(z), x) || !alike(imag(z), y) {
				t.Errorf("Of(%v, %v): %v", x, y, z)
			}
			if re, im := cplx.Parts(z); !alike(re, x) || !alike(im, y) {
				t.Errorf("Parts of %v, %v: %v, %v", x, y, re, im)
			}
		}
	}
	if re, im := cplx.Parts(complex(3, -4)); re != 3 || im != -4 {
		t.Error(re, im)
	}
}

// nearest32 goes by math/big, which rounds to the nearest, ties to the even.
func nearest32(x float64) float32 {
	if isNaN(x) || isInf(x) || x == 0 {
		return float32(x)
	}
	f, _ := big.NewFloat(x).Float32()
	return f
}

func alike32(x, y float32) bool {
	return math.Float32bits(x) == math.Float32bits(y) || x != x && y != y
}

// halves: floats that lie just between two float32s, and beside such places.
func halves() []float64 {
	var out []float64
	for _, x := range []float64{
		math.MaxFloat32, math.MaxFloat32 + 0x1p102, math.MaxFloat32 + 0x1p103, 0x1p128,
		1 + 0x1p-24, 1 + 0x3p-24, 0x1p-126, 0x1p-149, 0x1p-150, 0x3p-150, 0x1p-151, 0x1.000001p-126,
	} {
		for _, y := range []float64{x, math.Nextafter(x, 0), math.Nextafter(x, math.Inf(1))} {
			out = append(out, y, -y)
		}
	}
	return out
}

func TestShort(t *testing.T) { // P5.1
	l := append(halves(), edgeFloats()...)
	for _, z := range append(pairs(l), odds(54, 5000)...) {
		c := cplx.Short(z)
		if !alike32(real(c), nearest32(real(z))) || !alike32(imag(c), nearest32(imag(z))) {
			t.Errorf("Short(%v): %v", z, c)
		}
	}
	inf := float32(math.Inf(1))
	for _, c := range []struct {
		x    float64
		want float32
	}{
		{1e300, inf}, {-1e300, -inf}, {math.MaxFloat32, math.MaxFloat32},
		{math.MaxFloat32 + 0x1p103, inf}, {math.Nextafter(math.MaxFloat32+0x1p103, 0), math.MaxFloat32},
		{1 + 0x1p-24, 1}, {1 + 0x3p-24, 1 + 0x1p-22}, {0x1p-150, 0}, {0x3p-150, 0x1p-148},
		{-0x1p-1074, float32(minusNought())}, {minusNought(), float32(minusNought())},
	} {
		if s := cplx.Short(complex(c.x, -c.x)); !alike32(real(s), c.want) || !alike32(imag(s), -c.want) {
			t.Errorf("Short of %v: %v", c.x, s)
		}
	}
}

func TestLong(t *testing.T) { // P5.1
	r := rand.New(rand.NewSource(55))
	inf, nan := float32(math.Inf(1)), float32(math.NaN())
	l := []float32{0, float32(minusNought()), 1, -0.1, math.MaxFloat32, math.SmallestNonzeroFloat32, inf, -inf, nan, math.Float32frombits(0xff800001)}
	for range 200 {
		l = append(l, math.Float32frombits(r.Uint32()))
	}
	for _, x := range l {
		for _, y := range l {
			z := cplx.Long(complex(x, y))
			if !alike(real(z), float64(x)) || !alike(imag(z), float64(y)) {
				t.Errorf("Long(%v, %v): %v", x, y, z)
			}
			if c := cplx.Short(z); !alike32(real(c), x) || !alike32(imag(c), y) {
				t.Errorf("Short of Long(%v, %v): %v", x, y, c)
			}
		}
	}
}

func TestFiniteAndNaN(t *testing.T) { // P5.1
	ones(func(z complex128) {
		nan := isNaN(real(z)) || isNaN(imag(z))
		finite := !nan && !isInf(real(z)) && !isInf(imag(z))
		if cplx.NaN(z) != nan || cplx.Finite(z) != finite {
			t.Errorf("%v: finite %v, NaN %v", z, cplx.Finite(z), cplx.NaN(z))
		}
	})
	for _, x := range nans() {
		if !cplx.NaN(complex(x, 0)) || !cplx.NaN(complex(0, x)) || cplx.Finite(complex(x, 0)) || cplx.Finite(complex(0, x)) {
			t.Errorf("%x is none", bits(x))
		}
	}
	// Finite goes by the parts: the magnitude of this one is too great.
	if !cplx.Finite(complex(math.MaxFloat64, math.MaxFloat64)) || cplx.NaN(complex(math.Inf(1), math.Inf(-1))) {
		t.Error("great ones")
	}
}

func TestSameAndLike(t *testing.T) { // P5.1
	twos(func(z, w complex128) {
		if cplx.Same(z, w) != (real(z) == real(w) && imag(z) == imag(w)) || cplx.Like(z, w) != like(z, w) {
			t.Errorf("%v, %v: same %v, like %v", z, w, cplx.Same(z, w), cplx.Like(z, w))
		}
	})
	minus := minusNought()
	for _, c := range []struct {
		z, w       complex128
		same, like bool
	}{
		{1 + 2i, 1 + 2i, true, true}, {1 + 2i, 1 - 2i, false, false}, {1 + 2i, 2 + 2i, false, false},
		{complex(minus, 0), 0, true, false}, {complex(0, minus), 0, true, false}, {complex(minus, minus), complex(minus, minus), true, true},
		{complex(math.Inf(1), 0), complex(math.Inf(1), 0), true, true}, {complex(math.Inf(1), 0), complex(math.Inf(-1), 0), false, false},
	} {
		if cplx.Same(c.z, c.w) != c.same || cplx.Like(c.z, c.w) != c.like {
			t.Errorf("%v, %v: same %v, like %v", c.z, c.w, cplx.Same(c.z, c.w), cplx.Like(c.z, c.w))
		}
	}
	for _, x := range nans() {
		for _, y := range nans() {
			if cplx.Same(complex(x, 1), complex(y, 1)) || !cplx.Like(complex(x, 1), complex(y, 1)) || cplx.Like(complex(x, 1), complex(y, 2)) || cplx.Like(complex(x, 1), complex(1, y)) || cplx.Like(complex(x, 1), 1+1i) {
				t.Errorf("%x, %x", bits(x), bits(y))
			}
		}
	}
}

func TestOrder(t *testing.T) { // P5.1
	l := rising()
	places := map[uint64]int{}
	for k, x := range l {
		places[bits(x)] = k
	}
	place := func(x float64) int {
		if isNaN(x) {
			return len(l)
		}
		return places[bits(x)]
	}
	all := append(l, nans()...)
	for _, z := range pairs(all) {
		for _, w := range pairs(all) {
			want := cmp.Or(cmp.Compare(place(real(z)), place(real(w))), cmp.Compare(place(imag(z)), place(imag(w))))
			if o := cplx.Order(z, w); o != want {
				t.Fatalf("Order(%v, %v): %d, not %d", z, w, o, want)
			}
		}
	}
	minus, nan, inf := minusNought(), math.NaN(), math.Inf(1)
	for _, c := range []struct {
		z, w complex128
		want int
	}{
		{complex(minus, 0), 0, -1}, {0, complex(minus, 0), 1}, {complex(nan, 0), complex(inf, 0), 1}, {1 + 2i, 1 + 3i, -1},
		{complex(minus, 9), 0, -1}, {2 - 9i, 1 + 9i, 1}, {complex(nan, 1), complex(nan, 2), -1}, {complex(1, nan), complex(1, inf), 1},
	} {
		if o := cplx.Order(c.z, c.w); o != c.want {
			t.Errorf("Order(%v, %v): %d", c.z, c.w, o)
		}
	}
}
