package gauss_test

import (
	"math"
	"math/big"
	"math/rand"
	"testing"

	"tracery/api"
	"tracery/gauss"
)

// powerOf multiplies as often as n says.
func powerOf(z pair, n int) pair {
	out := short(1, 0)
	for range max(n, -n) {
		out = out.mul(z)
	}
	if n < 0 {
		return short(1, 0).quo(out)
	}
	return out
}

func TestPow(t *testing.T) { // P4.3
	for _, z := range grid() {
		for n := -api.MaxPow; n <= api.MaxPow; n++ {
			got, e := gauss.Pow(z.number(), n)
			if n < 0 && z.zero() {
				wantRefused(t, "0 to a power below 0", got, e, api.ErrZero)
				continue
			}
			wantPair(t, "a power of "+brief(z.number()), got, e, powerOf(z, n))
		}
	}
	r := rand.New(rand.NewSource(10))
	for range 200 {
		// From 5 to 9 groups of 16 bits lead to either side of the bound.
		z := odd(r, 1+r.Intn(9))
		n := 1 + r.Intn(api.MaxPow)
		got, e := gauss.Pow(z.number(), n)
		wantPair(t, "a power", got, e, powerOf(z, n))
		if !z.zero() {
			got, e = gauss.Pow(z.number(), -n)
			wantPair(t, "a power below 0", got, e, powerOf(z, -n))
		}
	}
	ones(func(z pair) {
		got, e := gauss.Pow(z.number(), 0)
		want(t, "the power 0", got, e, short(1, 0).number())
		got, e = gauss.Pow(z.number(), 1)
		want(t, "the power 1", got, e, z.number())
	})
}

func TestPowRefuses(t *testing.T) { // P4.3
	for _, z := range wrong() {
		for _, n := range []int{-65, -64, -1, 0, 1, 64, 65} {
			got, e := gauss.Pow(z, n)
			wantRefused(t, "a power of a wrong one", got, e, api.ErrArg)
		}
	}
	for _, z := range good() {
		for _, n := range []int{math.MinInt, math.MinInt + 1, -api.MaxPow - 1, api.MaxPow + 1, math.MaxInt} {
			got, e := gauss.Pow(z, n)
			wantRefused(t, "too great a power", got, e, api.ErrArg)
		}
	}
	for _, n := range []int{-1, -2, -api.MaxPow} {
		got, e := gauss.Pow(short(0, 0).number(), n)
		wantRefused(t, "0 to a power below 0", got, e, api.ErrZero)
	}
}

func TestPowAtTheBound(t *testing.T) { // P4.3
	none := new(big.Rat)
	most := ofInt(new(big.Int).Sub(twos(128), big.NewInt(1)))
	more := ofInt(twos(128))
	whole := ofInt(bigOf(top()))
	for _, x := range []struct {
		what string
		z    pair
		n    int
		ok   bool
	}{
		{"as long as may be", pair{most, none}, 64, true},
		{"as long as may be, by i", pair{none, most}, 63, true},
		{"one past it", pair{more, none}, 64, false},
		{"one past it, by i", pair{none, new(big.Rat).Neg(more)}, 64, false},
		{"a den as long as may be", pair{most, none}, -64, true},
		{"a den one past it", pair{more, none}, -64, false},
		{"the greatest", pair{whole, none}, 1, true},
		{"the greatest, over", pair{whole, none}, -1, true},
		{"the greatest, by i, over", pair{none, whole}, -1, true},
		{"the greatest, squared", pair{whole, none}, 2, false},
		{"the greatest, squared, over", pair{none, whole}, -2, false},
		{"both parts the greatest", pair{whole, whole}, 1, true},
		{"both parts the greatest, over", pair{whole, whole}, -1, false},
		{"(1 + i) over 2^128, which spares 32 bits", pair{new(big.Rat).Inv(more), new(big.Rat).Inv(more)}, 64, true},
		{"parts over unlike dens", pair{big.NewRat(1, 1<<61), big.NewRat(1, 1<<62)}, 64, true},
		{"parts over unlike long dens", pair{new(big.Rat).Inv(whole), new(big.Rat).Inv(most)}, 64, false},
	} {
		got, e := gauss.Pow(x.z.number(), x.n)
		if !x.ok {
			wantRefused(t, x.what, got, e, api.ErrBig)
			continue
		}
		want(t, x.what, got, e, powerOf(x.z, x.n).number())
	}
	for _, z := range good() {
		// Whatever is on the way, it is refused, and soon.
		if got, e := gauss.Pow(z, api.MaxPow); len(z.Re.Num.Mag)+len(z.Im.Den.Mag) > api.MaxWhole {
			wantRefused(t, "the greatest power of a long one", got, e, api.ErrBig)
		}
	}
}

// rootOf is the root of the two that the chapter's words say.
func rootOf(z pair) pair {
	if z.re.Sign() < 0 || z.re.Sign() == 0 && z.im.Sign() < 0 {
		return z.neg()
	}
	return z
}

func TestSqrt(t *testing.T) { // P4.5
	none := []pair{short(2, 0), short(0, 1), short(-3, 0), short(1, 1), {big.NewRat(1, 2), new(big.Rat)}, {new(big.Rat), big.NewRat(2, 3)}}
	ones(func(z pair) {
		square := z.mul(z)
		if !square.fits() {
			return
		}
		got, e := gauss.Sqrt(square.number())
		want(t, "the root of a square", got, e, rootOf(z).number())
		if z.zero() {
			return
		}
		got, e = gauss.Sqrt(square.neg().number())
		want(t, "the root of a square's opposite", got, e, rootOf(z.mul(short(0, 1))).number())
		// A square times what is none is none.
		for _, by := range none {
			if other := square.mul(by); other.fits() {
				got, e := gauss.Sqrt(other.number())
				wantRefused(t, "the root of no square", got, e, api.ErrNone)
			}
		}
	})
	// The norms of these are squares.
	for _, z := range []pair{short(6, 8), short(-6, 8), short(3, -4).mul(short(3, 0)), short(5, 12).mul(short(-7, 0)), {big.NewRat(3, 2), big.NewRat(4, 2)}} {
		got, e := gauss.Sqrt(z.number())
		wantRefused(t, "the root of no square", got, e, api.ErrNone)
	}
	for _, z := range wrong() {
		got, e := gauss.Sqrt(z)
		wantRefused(t, "the root of a wrong one", got, e, api.ErrArg)
	}
	for _, z := range good()[4:] {
		got, e := gauss.Sqrt(z)
		wantRefused(t, "the root of a long one", got, e, api.ErrNone)
	}
}

// squareOf is the square of q/(2p) + (q^2 - 2p^2)/(2pq) i, for p and q odd and
// without a common divisor: its dens are q^2 and 2p^2, shorter than 2pq.
func squareOf(p, q *big.Int) (square, root pair) {
	pp, qq := new(big.Int).Mul(p, p), new(big.Int).Mul(q, q)
	twice := new(big.Int).Lsh(pp, 1)
	rest := new(big.Int).Sub(qq, twice)
	p2 := new(big.Int).Lsh(p, 1)
	root = pair{ratOfTwo(q, p2), ratOfTwo(rest, new(big.Int).Mul(p2, q))}
	return pair{ratOfTwo(new(big.Int).Sub(qq, pp), qq), ratOfTwo(rest, twice)}, root
}

func TestSqrtAtTheBound(t *testing.T) { // P4.5
	q := new(big.Int).Sub(twos(4*api.MaxWhole), big.NewInt(1))
	// The greatest p of which 2p^2 has 1024 bytes, and those about which 2pq
	// has one byte more.
	greatest := new(big.Int).Sqrt(twos(8*api.MaxWhole - 1))
	last := new(big.Int).Div(twos(8*api.MaxWhole-1), q)
	refused, told := 0, 0
	for _, from := range []*big.Int{greatest, last, new(big.Int).Add(last, big.NewInt(6))} {
		for less := range int64(10) {
			p := new(big.Int).Sub(from, big.NewInt(less))
			if p.Bit(0) == 0 {
				continue
			}
			square, root := squareOf(p, q)
			if !square.fits() {
				t.Fatal("the square is too long")
			}
			got, e := gauss.Sqrt(square.number())
			wantPair(t, "the root", got, e, root)
			got, e = gauss.Sqrt(square.conj().number())
			wantPair(t, "the conjugate's root", got, e, root.conj())
			if root.fits() {
				told++
			} else {
				refused++
			}
		}
	}
	if refused < 4 || told < 5 {
		t.Errorf("%d are refused, %d told", refused, told)
	}
}
