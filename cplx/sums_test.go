package cplx_test

import (
	"math"
	"math/big"
	"math/rand"
	"testing"

	"tracery/cplx"
)

func TestOfTwo(t *testing.T) { // P5.2
	for _, op := range []struct {
		name string
		got  func(z, w complex128) complex128
		want func(z, w complex128) complex128
	}{
		{"Add", cplx.Add, sumOf},
		{"Sub", cplx.Sub, func(z, w complex128) complex128 {
			return complex(minus(real(z), real(w)), minus(imag(z), imag(w)))
		}},
		{"Mul", cplx.Mul, productOf},
		{"Div", cplx.Div, quotientOf},
	} {
		twos(func(z, w complex128) {
			if got, want := op.got(z, w), op.want(z, w); !like(got, want) {
				t.Fatalf("%s(%v, %v): %v, not %v", op.name, z, w, got, want)
			}
		})
	}
}

func TestRealOfTwo(t *testing.T) { // P5.2
	for _, op := range []struct {
		name string
		got  func(z, w complex128) float64
		want func(a, b, c, d float64) float64
	}{
		{"Dot", cplx.Dot, func(a, b, c, d float64) float64 { return plus(times(a, c), times(b, d)) }},
		{"Cross", cplx.Cross, func(a, b, c, d float64) float64 { return minus(times(a, d), times(b, c)) }},
	} {
		twos(func(z, w complex128) {
			want := op.want(real(z), imag(z), real(w), imag(w))
			if got := op.got(z, w); !alike(got, want) {
				t.Fatalf("%s(%v, %v): %v, not %v", op.name, z, w, got, want)
			}
		})
	}
}

func TestOfOne(t *testing.T) { // P5.2
	ones(func(z complex128) {
		a, b := real(z), imag(z)
		wantLike(t, "Neg", cplx.Neg(z), complex(opposite(a), opposite(b)))
		wantLike(t, "Conj", cplx.Conj(z), complex(a, opposite(b)))
		wantLike(t, "Turn", cplx.Turn(z), complex(opposite(b), a))
		wantAlike(t, "Abs2", cplx.Abs2(z), plus(times(a, a), times(b, b)))
	})
}

func TestScale(t *testing.T) { // P5.2
	for _, z := range append(edges(), odds(56, 2000)...) {
		for _, r := range edgeFloats() {
			want := complex(times(real(z), r), times(imag(z), r))
			if got := cplx.Scale(z, r); !like(got, want) {
				t.Fatalf("Scale(%v, %v): %v, not %v", z, r, got, want)
			}
		}
	}
}

func TestOperationsAtExamples(t *testing.T) { // P5.2
	minus, nan, inf := minusNought(), math.NaN(), math.Inf(1)
	for _, c := range []struct {
		name      string
		got, want complex128
	}{
		{"Add", cplx.Add(1+2i, 3-1i), 4 + 1i},
		{"Sub", cplx.Sub(1+2i, 3-1i), -2 + 3i},
		{"Mul", cplx.Mul(1+2i, 3-1i), 5 + 5i},
		{"Div", cplx.Div(1+2i, 3-1i), complex(0.1, 0.7)},
		{"Div by 0", cplx.Div(1, 0), complex(nan, nan)},
		{"Div of 0 by 0", cplx.Div(0, complex(minus, 0)), complex(nan, nan)},
		{"Div by a small one", cplx.Div(1+1i, 0x1p-540), complex(inf, inf)},
		{"Div by a great one", cplx.Div(0x1p600, 0x1p600), complex(nan, 0)},
		{"Mul by an infinity", cplx.Mul(complex(inf, 0), 1), complex(inf, nan)},
		{"Conj", cplx.Conj(complex(minus, minus)), complex(minus, 0)},
		{"Neg", cplx.Neg(0), complex(minus, minus)},
		{"Neg of -0", cplx.Neg(complex(minus, 5)), complex(0, -5)},
		{"Turn", cplx.Turn(2), complex(minus, 2)},
		{"Scale", cplx.Scale(complex(1, minus), -2), complex(-2, 0)},
		{"Scale by an infinity", cplx.Scale(2, inf), complex(inf, nan)},
		{"the tenth one of the whole", cplx.Mul(complex(1, 0x1p-52), complex(1, 0x1p-52)), complex(1, 0x1p-51)},
	} {
		wantLike(t, c.name, c.got, c.want)
	}
	wantAlike(t, "Dot", cplx.Dot(1+2i, 3+4i), 11)
	wantAlike(t, "Cross", cplx.Cross(1+2i, 3+4i), -2)
	wantAlike(t, "Abs2", cplx.Abs2(3+4i), 25)
	wantAlike(t, "Abs2, too great", cplx.Abs2(1e300), inf)
	wantAlike(t, "Abs2, too small", cplx.Abs2(1e-300), 0)
}

// rounded is an exact number's nearest float, by math/big.
func rounded(x *big.Rat) float64 {
	f, _ := x.Float64()
	return f
}

func exact(x float64) *big.Rat { return new(big.Rat).SetFloat64(x) }

func TestEachIsRoundedByItself(t *testing.T) { // P5.2, P0.3
	r := rand.New(rand.NewSource(57))
	product := func(x, y float64) *big.Rat { return exact(rounded(new(big.Rat).Mul(exact(x), exact(y)))) }
	for range 20000 {
		a, b, c, d := within(r, 2), within(r, 2), within(r, 2), within(r, 2)
		// Where both products are near each other, one that is not rounded shows.
		b = times(a, 1+0x1p-40*r.Float64())
		d = times(c, 1+0x1p-40*r.Float64())
		re := rounded(new(big.Rat).Sub(product(a, c), product(b, d)))
		im := rounded(new(big.Rat).Add(product(a, d), product(b, c)))
		if z := cplx.Mul(complex(a, b), complex(c, d)); z != complex(re, im) {
			t.Fatalf("(%v, %v) times (%v, %v): %v", a, b, c, d, z)
		}
		if x := cplx.Cross(complex(a, b), complex(c, d)); x != rounded(new(big.Rat).Sub(product(a, d), product(b, c))) {
			t.Fatalf("(%v, %v) cross (%v, %v): %v", a, b, c, d, x)
		}
		s, w := complex(opposite(times(b, d)), 0), complex(b, a)
		if z := cplx.Add(s, cplx.Scale(w, d)); real(z) != 0 {
			t.Fatalf("%v scaled by %v, less that: %v", w, d, z)
		}
	}
}
