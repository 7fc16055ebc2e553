package cplx_test

import (
	"math"
	"math/big"
	"math/rand"
	"slices"
	"testing"

	"tracery/api"
	"tracery/cplx"
)

func TestThereAndBack(t *testing.T) { // P5.7
	ones(func(z complex128) {
		wantLike(t, "Conj of Conj", cplx.Conj(cplx.Conj(z)), z)
		wantLike(t, "Neg of Neg", cplx.Neg(cplx.Neg(z)), z)
		wantLike(t, "Turn four times", cplx.Turn(cplx.Turn(cplx.Turn(cplx.Turn(z)))), z)
		wantLike(t, "Turn twice", cplx.Turn(cplx.Turn(z)), cplx.Neg(z))
		back, e := cplx.Read(cplx.Text(z))
		if e != api.OK {
			t.Errorf("Read of Text(%v): %v", z, e)
		}
		wantLike(t, "Read of Text", back, z)
		if !cplx.Like(back, z) {
			t.Errorf("%v is not like what is read", z)
		}
	})
}

func TestOrderIsTotal(t *testing.T) { // P5.7
	l := append(edges(), odds(62, 300)...)
	slices.SortFunc(l, cplx.Order)
	for i, z := range l {
		for j, w := range l {
			o := cplx.Order(z, w)
			if o != -cplx.Order(w, z) || (o == 0) != cplx.Like(z, w) || i < j && o > 0 {
				t.Fatalf("Order(%v, %v): %d", z, w, o)
			}
		}
	}
}

func TestEitherWayRound(t *testing.T) { // P5.7
	twos(func(z, w complex128) {
		for _, op := range []func(z, w complex128) complex128{cplx.Add, cplx.Mul} {
			x, y := op(z, w), op(w, z)
			if !cplx.NaN(x) && !cplx.Same(x, y) || !like(x, y) && !cplx.NaN(x) {
				t.Fatalf("%v, %v: %v and %v", z, w, x, y)
			}
		}
	})
}

// ratios is a complex number by math/big's fractions.
type ratios struct{ re, im *big.Rat }

func ratiosOf(z complex128) ratios { return ratios{exact(real(z)), exact(imag(z))} }

func (z ratios) norm() *big.Rat {
	x, y := new(big.Rat).Mul(z.re, z.re), new(big.Rat).Mul(z.im, z.im)
	return x.Add(x, y)
}

func (z ratios) sum(w ratios) ratios {
	return ratios{new(big.Rat).Add(z.re, w.re), new(big.Rat).Add(z.im, w.im)}
}

func (z ratios) negated() ratios {
	return ratios{new(big.Rat).Neg(z.re), new(big.Rat).Neg(z.im)}
}

func (z ratios) product(w ratios) ratios {
	a, b := new(big.Rat).Mul(z.re, w.re), new(big.Rat).Mul(z.im, w.im)
	c, d := new(big.Rat).Mul(z.re, w.im), new(big.Rat).Mul(z.im, w.re)
	return ratios{a.Sub(a, b), c.Add(c, d)}
}

func (z ratios) inverse() ratios {
	n := new(big.Rat).Inv(z.norm())
	return ratios{new(big.Rat).Mul(z.re, n), new(big.Rat).Mul(new(big.Rat).Neg(z.im), n)}
}

// wantNear holds what is off, squared, against 2^-2e times the square of a length.
func wantNear(t *testing.T, what string, got complex128, want ratios, square *big.Rat, e int) {
	t.Helper()
	off := ratiosOf(got).sum(want.negated()).norm()
	scaled := new(big.Rat).Mul(off, new(big.Rat).SetInt(new(big.Int).Lsh(big.NewInt(1), uint(2*e))))
	if scaled.Cmp(square) > 0 {
		t.Fatalf("%s: %v is more than 2^-%d off", what, got, e)
	}
}

func mayBeAsked(z complex128) bool {
	for _, x := range []float64{real(z), imag(z)} {
		if m := unsigned(x); x != 0 && !(m >= 0x1p-400 && m <= 0x1p400) {
			return false
		}
	}
	return true
}

func nearPairs(do func(z, w complex128)) {
	bounds := pairs([]float64{0, 0x1p-400, -0x1p400, 1, -0.1, math.Nextafter(0x1p400, 0), 1 + 0x1p-52, -0x1.8p200})
	for _, z := range bounds {
		for _, w := range bounds {
			do(z, w)
		}
	}
	r := rand.New(rand.NewSource(63))
	for _, most := range []int{1, 3, 30, 190, 400} {
		for range 1500 {
			z, w := complex(within(r, most), within(r, most)), complex(within(r, most), within(r, most))
			do(z, w)
			// So near each other that nearly all of a difference goes.
			do(z, cplx.Scale(w, 0x1p-52))
			do(z, complex(math.Nextafter(real(z), 0), imag(w)))
			do(z, complex(imag(z)*(1+0x1p-30), real(z)))
		}
	}
}

func TestHowNear(t *testing.T) { // P5.7, P0.3
	asked := [4]int{}
	nearPairs(func(z, w complex128) {
		if !mayBeAsked(z) || !mayBeAsked(w) {
			return
		}
		p, q := ratiosOf(z), ratiosOf(w)
		both := new(big.Rat).Mul(p.norm(), q.norm())
		if x, want := cplx.Add(z, w), p.sum(q); mayBeAsked(x) {
			wantNear(t, "sum", x, want, want.norm(), 53)
			asked[0]++
		}
		if x, want := cplx.Sub(z, w), p.sum(q.negated()); mayBeAsked(x) {
			wantNear(t, "difference", x, want, want.norm(), 53)
			asked[1]++
		}
		if x := cplx.Mul(z, w); mayBeAsked(x) {
			wantNear(t, "product", x, p.product(q), both, 51)
			asked[2]++
		}
		if w == 0 {
			return
		}
		if x := cplx.Div(z, w); mayBeAsked(x) {
			wantNear(t, "quotient", x, p.product(q.inverse()), new(big.Rat).Mul(p.norm(), q.inverse().norm()), 49)
			asked[3]++
		}
	})
	for k, n := range asked {
		if n < 10000 {
			t.Errorf("operation %d: just %d were asked", k, n)
		}
	}
}

func TestSignsOfRoots(t *testing.T) { // P5.7
	ones(func(z complex128) {
		x, e := cplx.Sqrt(z)
		if e != api.OK {
			return
		}
		// Below the least float but one its half is 0, and the formula divides 0 by 0.
		if z != -0x1p-1074 && (below(real(x)) || isNaN(real(x))) {
			t.Errorf("Sqrt(%v): %v", z, x)
		}
		if !isNaN(imag(x)) && below(imag(x)) != below(imag(z)) {
			t.Errorf("Sqrt(%v): %v", z, x)
		}
	})
}

func wantRootOfSquare(t *testing.T, a, b int64) {
	t.Helper()
	re, im := float64(a*a-b*b), float64(2*a*b)
	x, e := cplx.Sqrt(complex(re, im))
	z := ratiosOf(complex(float64(a), float64(b)))
	if e != api.OK {
		t.Fatal(a, b, e)
	}
	wantNear(t, "root of a square", x, z, z.norm(), 48)
}

func TestRootsOfSquares(t *testing.T) { // P5.7
	const most = 1<<20 - 1
	for _, a := range []int64{1, 2, 3, 1000, most - 1, most} {
		for _, b := range []int64{0, 1, -1, 2, -1000, most - 1, most, -most} {
			wantRootOfSquare(t, a, b)
		}
	}
	for a := int64(1); a < 40; a++ {
		for b := int64(-40); b < 40; b++ {
			wantRootOfSquare(t, a, b)
		}
	}
	r := rand.New(rand.NewSource(64))
	for range 20000 {
		wantRootOfSquare(t, 1+r.Int63n(most), r.Int63n(2*most+1)-most)
	}
}
