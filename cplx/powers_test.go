package cplx_test

import (
	"iter"
	"math"
	"math/rand"
	"slices"
	"strconv"
	"testing"

	"tracery/api"
	"tracery/cplx"
)

// powerOf reads the exponent's bits as a text, from its end.
func powerOf(z complex128, n uint64) complex128 {
	p, s := complex128(1), z
	digits := strconv.FormatUint(n, 2)
	for k := len(digits) - 1; k >= 0 && n > 0; k-- {
		if digits[k] == '1' {
			p = productOf(p, s)
		}
		if k > 0 {
			s = productOf(s, s)
		}
	}
	return p
}

func TestPower(t *testing.T) { // P5.5
	l := append(edges(), odds(58, 400)...)
	for _, z := range l {
		for _, n := range []int{0, 1, 2, 3, 4, 5, 6, 7, 10, 13, 64, 1000003, math.MaxInt, math.MaxInt - 1} {
			if x, want := cplx.Power(z, n), powerOf(z, uint64(n)); !like(x, want) {
				t.Fatalf("Power(%v, %d): %v, not %v", z, n, x, want)
			}
			if x, want := cplx.Power(z, -n), quotientOf(1, powerOf(z, uint64(n))); n > 0 && !like(x, want) {
				t.Fatalf("Power(%v, %d): %v, not %v", z, -n, x, want)
			}
		}
		if x, want := cplx.Power(z, math.MinInt), quotientOf(1, powerOf(z, 1<<63)); !like(x, want) {
			t.Fatalf("Power(%v, the least): %v, not %v", z, x, want)
		}
	}
}

func TestPowerAtExamples(t *testing.T) { // P5.5
	minus, nan := minusNought(), math.NaN()
	for _, c := range []struct {
		z    complex128
		n    int
		want complex128
	}{
		{1i, 3, complex(minus, -1)}, {2, -2, 0.25}, {0, 0, 1}, {complex(nan, nan), 0, 1}, {complex(math.Inf(1), 0), 0, 1},
		{1 + 1i, 2, 2i}, {1 + 1i, 8, 16}, {2 - 1i, 1, 2 - 1i}, {0, -1, complex(nan, nan)}, {3, 4, 81},
		{1, math.MaxInt, 1}, {1, math.MinInt, 1}, {-1, math.MaxInt, -1},
		{0x1p-1000, 1, 0x1p-1000}, {0x1p300, 3, 0x1p900},
	} {
		if x := cplx.Power(c.z, c.n); x != c.want && !like(x, c.want) {
			t.Errorf("Power(%v, %d): %v, not %v", c.z, c.n, x, c.want)
		}
	}
	wantLike(t, "i to the third", cplx.Power(1i, 3), complex(minus, -1))
	// The first power too is a product, by 1 + 0 i.
	wantLike(t, "-0 - 0 i to the first", cplx.Power(complex(minus, minus), 1), complex(0, minus))
}

// polyOf: x begins with the last number, and goes down to the first.
func polyOf(z complex128, l []complex128) complex128 {
	if len(l) == 0 {
		return 0
	}
	back := slices.Clone(l)
	slices.Reverse(back)
	x := back[0]
	for _, c := range back[1:] {
		x = sumOf(productOf(x, z), c)
	}
	return x
}

func addedUp(l []complex128) complex128 {
	x := complex(0, 0)
	for _, c := range l {
		x = sumOf(x, c)
	}
	return x
}

func TestPolyAndSum(t *testing.T) { // P5.5
	r := rand.New(rand.NewSource(59))
	many := [][]complex128{edges(), odds(60, 3000), pairs([]float64{minusNought(), 0, 1, -1})}
	for k := range 30000 {
		z := many[k%len(many)]
		l := make([]complex128, r.Intn(6))
		for k := range l {
			l[k] = z[r.Intn(len(z))]
		}
		at, before := z[r.Intn(len(z))], slices.Clone(l)
		if x, want := cplx.Poly(at, l...), polyOf(at, l); !like(x, want) {
			t.Fatalf("Poly(%v, %v): %v, not %v", at, l, x, want)
		}
		if x, want := cplx.Sum(l...), addedUp(l); !like(x, want) {
			t.Fatalf("Sum(%v): %v, not %v", l, x, want)
		}
		if !slices.EqualFunc(l, before, like) {
			t.Fatalf("%v has become %v", before, l)
		}
	}
}

func TestPolyAndSumAtExamples(t *testing.T) { // P5.5
	minus, nan, inf := minusNought(), math.NaN(), math.Inf(1)
	one := complex(minus, minus)
	for _, c := range []struct {
		name      string
		got, want complex128
	}{
		{"Poly", cplx.Poly(2, 1, 0, 3), 13}, {"Poly by i", cplx.Poly(1i, 1, 2, 3), -2 + 2i},
		{"Poly of none", cplx.Poly(2), 0}, {"Poly of none at a NaN", cplx.Poly(complex(nan, inf)), 0}, {"Poly of nil", cplx.Poly(3, nil...), 0},
		{"Poly that ends with -0", cplx.Poly(1, complex(minus, 0), complex(minus, 0)), complex(minus, 0)},
		{"Poly of one", cplx.Poly(complex(nan, inf), one), one}, {"Poly of noughts", cplx.Poly(complex(inf, 0), 0, 0), complex(nan, nan)},
		{"Sum of none", cplx.Sum(), 0}, {"Sum of nil", cplx.Sum(nil...), 0}, {"Sum of one", cplx.Sum(one), 0}, {"Sum", cplx.Sum(1, 2i, -3+1i), -2 + 3i},
		// From the left: the second 1 is lost beside what the first one is not.
		{"Sum in order", cplx.Sum(1, 0x1p60, -0x1p60, 1), 1}, {"Sum in another order", cplx.Sum(0x1p60, -0x1p60, 1, 1), 2},
		{"Sum of infinities", cplx.Sum(complex(inf, 1), complex(-inf, 1)), complex(nan, 2)},
	} {
		wantLike(t, c.name, c.got, c.want)
	}
}

func TestLongLists(t *testing.T) { // P5.5: neither names a bound
	l := make([]complex128, 3*api.MaxList)
	for k := range l {
		l[k] = complex(1, -float64(k))
	}
	n := float64(len(l))
	wantLike(t, "Sum", cplx.Sum(l...), complex(n, -n*(n-1)/2))
	wantLike(t, "Poly at 1", cplx.Poly(1, l...), complex(n, -n*(n-1)/2))
}

type told struct {
	k int
	z complex128
}

func gather(s iter.Seq2[int, complex128], most int) []told {
	var out []told
	for k, z := range s {
		out = append(out, told{k, z})
		if len(out) == most {
			break
		}
	}
	return out
}

func wantPowers(t *testing.T, z complex128, got []told, n int) {
	t.Helper()
	x := complex128(1)
	if len(got) != n {
		t.Fatalf("powers of %v: %d, not %d", z, len(got), n)
	}
	for k, g := range got {
		if g.k != k || !like(g.z, x) {
			t.Fatalf("power %d of %v: %v, not %v", k, z, g, x)
		}
		x = productOf(x, z)
	}
}

func TestPowers(t *testing.T) { // P5.5
	for _, z := range append(edges(), odds(61, 200)...) {
		for _, n := range []int{0, 1, 2, 7, 20} {
			s, e := cplx.Powers(z, n)
			if e != api.OK || s == nil {
				t.Fatalf("Powers(%v, %d): %v", z, n, e)
			}
			wantPowers(t, z, gather(s, -1), n)
			wantPowers(t, z, gather(s, 3), min(n, 3))
			wantPowers(t, z, gather(s, -1), n)
		}
	}
}

func TestPowersAtBounds(t *testing.T) { // P5.5
	for _, n := range []int{0, -1, -4097, math.MinInt} {
		s, e := cplx.Powers(2, n)
		if e != api.OK || s == nil {
			t.Fatalf("Powers of %d: %v", n, e)
		}
		wantPowers(t, 2, gather(s, -1), 0)
	}
	s, e := cplx.Powers(complex(0, 1), api.MaxList)
	if e != api.OK {
		t.Fatal(e)
	}
	wantPowers(t, 1i, gather(s, -1), api.MaxList)
	for _, n := range []int{api.MaxList + 1, 1 << 30, math.MaxInt} {
		if s, e := cplx.Powers(2, n); s != nil || e != api.ErrLong {
			t.Errorf("Powers of %d: %v", n, e)
		}
	}
}

// Two that go over the same powers at the same time do not disturb each other.
func TestPowersInOneAnother(t *testing.T) { // P5.5
	s, e := cplx.Powers(-2, 9)
	if e != api.OK {
		t.Fatal(e)
	}
	var outer []told
	for k, z := range s {
		outer = append(outer, told{k, z})
		wantPowers(t, -2, gather(s, k+1), k+1)
	}
	wantPowers(t, -2, outer, 9)
	next, stop := iter.Pull2(s)
	defer stop()
	next()
	wantPowers(t, -2, gather(s, -1), 9)
	if k, z, more := next(); k != 1 || z != -2 || !more {
		t.Error(k, z, more)
	}
}
