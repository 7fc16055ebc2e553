package fcirc_test

import (
	"math"
	"testing"

	"tracery/api"
	"tracery/fcirc"
)

// valueOf and powerOf are P12.1, word by word.
func valueOf(f api.FCircle, z complex128) float64 {
	u, v := squareOf(z), real(productOf(f.B, z))
	return plus(plus(times(f.A, u), plus(v, v)), f.C)
}

func powerOf(f api.FCircle) float64 { return minus(squareOf(f.B), times(f.A, f.C)) }

func TestValueExamples(t *testing.T) { // P12.1
	n := minusNought()
	inf, nan := math.Inf(1), math.NaN()
	for _, x := range []struct {
		f    api.FCircle
		z    complex128
		want float64
	}{
		{unit(), 2, 3},
		{unit(), 0.5, -0.75},
		{unit(), 0.6 + 0.8i, 0},
		{circle(1, -3-4i, 21), 3 - 4i, -4},
		{circle(0, 1i, 0), 5 + 2i, -4},
		{circle(2, 1+1i, 7), 3 + 5i, 71},
		{api.FCircle{}, 1, 0},
		{circle(n, complex(n, 0), n), 1, n},
		{circle(n, complex(n, n), n), 1, 0},
		{circle(n, 0, n), 1, 0},
		{circle(1, 0, 0), 0x1p-600, 0},
		{circle(1, 0, 0), 0x1p600, inf},
		{circle(-1, 0, 1), 0x1p600, -inf},
		{circle(-1, 0x1p600, 1), 0x1p600, nan},
		{circle(0, 0, 0), complex(0, inf), nan},
		{circle(0, 1, 0), complex(0x1p1023, 0), nan},
		{circle(0, 1, nan), 1, nan},
		{circle(inf, 1, 0), 1, inf},
		{circle(inf, 1, -inf), 1, nan},
		// v + v is too great, though v is not.
		{circle(0x1p-1000, 0x1p1023, 0), 1, inf},
		// Each product is rounded: nothing is left of 2^-54 or of 2^-104.
		{circle(1, 0, -1-0x1p-26), 1 + 0x1p-27, 0},
		{circle(1+0x1p-52, 0, 0x1p-52-1), complex(math.Sqrt2, 0), plus(times(1+0x1p-52, times(math.Sqrt2, math.Sqrt2)), 0x1p-52-1)},
		// From the left: 2^53 + 1 is 2^53 again, and so on.
		{circle(0x1p53, 0.5, -0x1p53), 1, 0},
		{circle(0x1p53, 0.5, 1), -1, 0x1p53},
	} {
		wantFloat(t, "Value", fcirc.Value(x.f, x.z), x.want)
	}
}

func TestValueMany(t *testing.T) { // P12.1
	told := [3]int{}
	circlesAndNumbers(func(f api.FCircle, z complex128) {
		want := valueOf(f, z)
		wantFloat(t, "Value", fcirc.Value(f, z), want)
		switch {
		case isNaN(want):
			told[0]++
		case !isFinite(want):
			told[1]++
		default:
			told[2]++
		}
	})
	for k, n := range told {
		if n < 1000 {
			t.Errorf("only %d of kind %d", n, k)
		}
	}
}

func TestPower(t *testing.T) { // P12.1
	inf, nan := math.Inf(1), math.NaN()
	for _, x := range []struct {
		f    api.FCircle
		want float64
	}{
		{unit(), 1},
		{circle(1, 0, 1), -1},
		{circle(0, 3-4i, 9), 25},
		{circle(2, 1+1i, 7), -12},
		{api.FCircle{}, 0},
		{circle(minusNought(), complex(minusNought(), minusNought()), 1), 0},
		{circle(1, 0x1p600, 1), inf},
		{circle(0x1p600, 0, 0x1p600), -inf},
		{circle(0x1p600, 0x1p600, 0x1p600), nan},
		{circle(0x1p-600, 0, 0x1p-600), 0},
		{circle(1, complex(0, nan), 1), nan},
		{circle(inf, 1, 0), nan},
		// The square and the product are rounded, each by itself.
		{circle(1, 1+0x1p-27, 1+0x1p-26), 0},
		{circle(1+0x1p-27, 1, 1+0x1p-27), -0x1p-26},
	} {
		wantFloat(t, "Power", fcirc.Power(x.f), x.want)
	}
	circles(func(f api.FCircle) { wantFloat(t, "Power", fcirc.Power(f), powerOf(f)) })
}

func TestSideExamples(t *testing.T) { // P12.3
	n, nan, inf := minusNought(), math.NaN(), math.Inf(1)
	for _, x := range []struct {
		f    api.FCircle
		z    complex128
		want int
		e    api.Errno
	}{
		{unit(), 0.5, -1, api.OK},
		{unit(), 1, 0, api.OK},
		{unit(), 0.6 + 0.8i, 0, api.OK},
		{unit(), 2i, 1, api.OK},
		{circle(-1, 0, 1), 0.5, 1, api.OK},
		{circle(0, 1i, 0), 1i, -1, api.OK},
		{circle(0, 1i, 0), -1i, 1, api.OK},
		{circle(0, 1i, 0), 7, 0, api.OK},
		// A value of -0 is 0.
		{circle(n, complex(n, 0), n), 1, 0, api.OK},
		{unit(), 0x1p600, 1, api.OK},
		{circle(-1, 0, 1), 0x1p600, -1, api.OK},
		{circle(0, 0, 0x1p-1074), 1, 1, api.OK},
		{circle(0, 0, -0x1p-1074), 1, -1, api.OK},
		{circle(inf, 0, 0), 1, 1, api.OK},
		{circle(1, 0, -inf), 1, -1, api.OK},
		{circle(nan, 0, 0), 1, 0, api.ErrFloat},
		{circle(0, complex(nan, 0), 0), 1, 0, api.ErrFloat},
		{circle(0, complex(0, nan), 0), 1, 0, api.ErrFloat},
		{circle(0, 0, nan), 1, 0, api.ErrFloat},
		{circle(0, 0, loud()), 1, 0, api.ErrFloat},
		{unit(), complex(nan, 0), 0, api.ErrFloat},
		{unit(), complex(0, nan), 0, api.ErrFloat},
		{circle(inf, 0, -inf), 1, 0, api.ErrFloat},
		{circle(-1, 0x1p600, 1), 0x1p600, 0, api.ErrFloat},
		// What is not finite goes on where Value is no NaN.
		{circle(1, 0, -1), complex(inf, 1), 0, api.ErrFloat},
		{circle(1, 1+1i, -1), complex(1, inf), 0, api.ErrFloat},
		{circle(1, -1+1i, -1), complex(1, -inf), 1, api.OK},
	} {
		if side, e := fcirc.Side(x.f, x.z); side != x.want || e != x.e {
			t.Errorf("Side(%v, %v): %d, %v, not %d, %v", x.f, x.z, side, e, x.want, x.e)
		}
	}
}

func TestSideMany(t *testing.T) { // P12.3
	told := map[int]int{}
	circlesAndNumbers(func(f api.FCircle, z complex128) {
		want, wantE := 0, api.OK
		switch v := valueOf(f, z); {
		case isNaN(v):
			wantE = api.ErrFloat
			told[7]++
		case isNought(v):
			told[0]++
		case bits(v)&signBit != 0:
			want = -1
			told[-1]++
		default:
			want = 1
			told[1]++
		}
		if side, e := fcirc.Side(f, z); side != want || e != wantE {
			t.Fatalf("Side(%v, %v): %d, %v, not %d, %v", f, z, side, e, want, wantE)
		}
	})
	for _, k := range []int{-1, 0, 1, 7} {
		if told[k] < 1000 {
			t.Errorf("only %d of kind %d", told[k], k)
		}
	}
}

func TestLike(t *testing.T) { // P12.6
	n := minusNought()
	for _, f := range []api.FCircle{unit(), {}, circle(math.NaN(), complex(math.Inf(-1), n), 3), circle(n, complex(math.NaN(), 1), loud())} {
		if !fcirc.Like(f, f) {
			t.Errorf("%v is not like itself", f)
		}
		// One change at each of the four places is told; so are noughts' signs.
		for k, x := range partsOf(f) {
			for _, y := range []float64{opposite(x), 7, loud(), math.NaN(), math.Nextafter(x, 9)} {
				l := partsOf(f)
				l[k] = y
				g := fromParts(l)
				if fcirc.Like(f, g) != alike(x, y) || fcirc.Like(g, f) != alike(x, y) {
					t.Errorf("Like(%v, %v)", f, g)
				}
			}
		}
	}
	if fcirc.Like(circle(1, 0, -1), circle(2, 0, -2)) {
		t.Errorf("one and the same circle in two forms is like by bits")
	}
	if fcirc.Like(circle(1, 2+3i, 4), circle(4, 2+3i, 1)) || fcirc.Like(circle(1, 2+3i, 4), circle(1, 3+2i, 4)) {
		t.Errorf("parts exchanged are like by bits")
	}
	l := namedCircles()
	for _, f := range l {
		for _, g := range l {
			if fcirc.Like(f, g) != likeCircles(f, g) {
				t.Fatalf("Like(%v, %v): not %v", f, g, likeCircles(f, g))
			}
		}
	}
}
