package cplx_test

import (
	"math"
	"math/rand"
	"testing"
)

// What these five answer is rounded by itself: Go does not look into them, and so
// can fuse nothing.

//go:noinline
func plus(x, y float64) float64 { return x + y }

//go:noinline
func minus(x, y float64) float64 { return x - y }

//go:noinline
func times(x, y float64) float64 { return x * y }

//go:noinline
func over(x, y float64) float64 { return x / y }

//go:noinline
func root(x float64) float64 { return math.Sqrt(x) }

const signBit = 1 << 63

func bits(x float64) uint64 { return math.Float64bits(x) }

func minusNought() float64 { return math.Float64frombits(signBit) }

func isNaN(x float64) bool { return bits(x)&^signBit > bits(math.Inf(1)) }

func isInf(x float64) bool { return bits(x)&^signBit == bits(math.Inf(1)) }

func below(x float64) bool { return bits(x)&signBit != 0 }

func unsigned(x float64) float64 { return math.Float64frombits(bits(x) &^ signBit) }

func opposite(x float64) float64 { return math.Float64frombits(bits(x) ^ signBit) }

// alike and like: by bits, NaNs alike.
func alike(x, y float64) bool { return bits(x) == bits(y) || isNaN(x) && isNaN(y) }

func like(z, w complex128) bool { return alike(real(z), real(w)) && alike(imag(z), imag(w)) }

// rising: floats of all kinds but NaNs, in the chapter's order.
func rising() []float64 {
	return []float64{
		math.Inf(-1), -math.MaxFloat64, -1e300, -0x1p512, -0x1p64, -3, -1 - 0x1p-52, -1, -0.1, -0x1p-52, -0x1p-537, -0x1p-1022, -0x1p-1074,
		minusNought(), 0,
		0x1p-1074, 0x3p-1074, 0x0.fffffffffffffp-1022, 0x1p-1022, 0x1p-538, 0x1p-52, 0.1, 0.5, 1, 1 + 0x1p-52, 3, 1e10, 0x1p511, 1e300, math.MaxFloat64, math.Inf(1),
	}
}

// nans are NaNs of several bits: of either sign, quiet and loud.
func nans() []float64 {
	var out []float64
	for _, n := range []uint64{0x7ff8000000000001, 0x7ff0000000000001, 0xfff8000000000000, 0xfff7ffffffffffff, 0x7fffffffffffffff} {
		out = append(out, math.Float64frombits(n))
	}
	return out
}

func edgeFloats() []float64 { return append(rising(), nans()[:3]...) }

// pairs are all complex numbers of such parts.
func pairs(l []float64) []complex128 {
	var out []complex128
	for _, x := range l {
		for _, y := range l {
			out = append(out, complex(x, y))
		}
	}
	return out
}

func edges() []complex128 { return pairs(edgeFloats()) }

// anyBits: a float of any bits whatever.
func anyBits(r *rand.Rand) float64 { return math.Float64frombits(r.Uint64()) }

// within: a float of a magnitude from 2^-most up to 2^most; now and then a nought.
func within(r *rand.Rand, most int) float64 {
	if r.Intn(20) == 0 {
		return 0
	}
	x := math.Ldexp(1+r.Float64(), r.Intn(2*most)-most)
	if r.Intn(2) == 0 {
		return -x
	}
	return x
}

// few: a float of few bits, so that exact answers and ties are common.
func few(r *rand.Rand) float64 { return math.Ldexp(float64(r.Intn(65)-32), r.Intn(7)-3) }

// odds are complex numbers of many kinds.
func odds(seed int64, n int) []complex128 {
	r := rand.New(rand.NewSource(seed))
	var out []complex128
	for range n {
		out = append(out,
			complex(anyBits(r), anyBits(r)), complex(within(r, 2), within(r, 2)),
			complex(within(r, 540), within(r, 540)), complex(few(r), few(r)), complex(few(r), within(r, 60)))
	}
	return out
}

// twos goes over pairs of complex numbers: all of the edges, and many more.
func twos(do func(z, w complex128)) {
	l := edges()
	for _, z := range l {
		for _, w := range l {
			do(z, w)
		}
	}
	zs, ws := odds(51, 20000), odds(52, 20000)
	for k := range zs {
		do(zs[k], ws[k])
		do(zs[k], ws[(k+1)%len(ws)])
	}
}

func ones(do func(z complex128)) {
	for _, z := range edges() {
		do(z)
	}
	for _, z := range odds(53, 20000) {
		do(z)
	}
}

func wantLike(t *testing.T, what string, got, want complex128) {
	t.Helper()
	if !like(got, want) {
		t.Errorf("%s: %v, not %v", what, got, want)
	}
}

func wantAlike(t *testing.T, what string, got, want float64) {
	t.Helper()
	if !alike(got, want) {
		t.Errorf("%s: %v, not %v", what, got, want)
	}
}

// The table of 'How the floats go', and the roots of the chapter, in the order of
// their brackets.

func sumOf(z, w complex128) complex128 {
	return complex(plus(real(z), real(w)), plus(imag(z), imag(w)))
}

func productOf(z, w complex128) complex128 {
	a, b, c, d := real(z), imag(z), real(w), imag(w)
	return complex(minus(times(a, c), times(b, d)), plus(times(a, d), times(b, c)))
}

func quotientOf(z, w complex128) complex128 {
	a, b, c, d := real(z), imag(z), real(w), imag(w)
	m := plus(times(c, c), times(d, d))
	return complex(over(plus(times(a, c), times(b, d)), m), over(minus(times(b, c), times(a, d)), m))
}

func magnitudeOf(z complex128) float64 {
	if isInf(real(z)) || isInf(imag(z)) {
		return math.Inf(1)
	}
	if isNaN(real(z)) || isNaN(imag(z)) {
		return math.NaN()
	}
	m, n := unsigned(real(z)), unsigned(imag(z))
	if n > m {
		m, n = n, m
	}
	if m == 0 {
		return 0
	}
	q := over(n, m)
	return times(m, root(plus(1, times(q, q))))
}

func rootOf(z complex128) complex128 {
	a, b := real(z), imag(z)
	if a == 0 && b == 0 {
		return complex(0, b)
	}
	r := magnitudeOf(z)
	if a >= 0 {
		t := root(plus(times(0.5, r), times(0.5, a)))
		return complex(t, over(b, times(2, t)))
	}
	t := root(minus(times(0.5, r), times(0.5, a)))
	re := over(unsigned(b), times(2, t))
	if below(b) {
		t = opposite(t)
	}
	return complex(re, t)
}
