package whole_test

import (
	"math"
	"math/big"
	"math/rand"
	"testing"

	"tracery/api"
	"tracery/whole"
)

func TestPow(t *testing.T) { // P2.4
	for _, a := range edges() {
		for n := range 40 {
			got, e := whole.Pow(number(a), n)
			want(t, "the power", got, e, number(new(big.Int).Exp(a, big.NewInt(int64(n)), nil)))
		}
	}
	for _, x := range []struct {
		a    api.Whole
		n    int
		want api.Whole
	}{
		{small(-2), 3, small(-8)}, {api.Whole{}, 0, small(1)}, {top(), 0, small(1)}, {below(top()), 1, below(top())},
		{small(-1), 1000000000, small(1)}, {small(-1), math.MaxInt, small(-1)}, {small(1), math.MaxInt, small(1)},
		{api.Whole{}, 1, api.Whole{}}, {api.Whole{}, math.MaxInt, api.Whole{}},
		{small(2), topBits - 1, power2(topBits - 1)}, {small(-2), topBits - 1, below(power2(topBits - 1))},
		{power2(3), topBits/3 - 1, power2(topBits - topBits%3 - 3)},
	} {
		got, e := whole.Pow(x.a, x.n)
		want(t, "the power", got, e, x.want)
	}
}

func TestPowAtTheBound(t *testing.T) { // P2.4
	for _, a := range []int64{3, -3, 255, 257, -65535} {
		// The last power that may be, found by logarithms, and the next one.
		n := int(topBits / math.Log2(math.Abs(float64(a))))
		last := new(big.Int).Exp(big.NewInt(a), big.NewInt(int64(n)), nil)
		if last.BitLen() > topBits || new(big.Int).Mul(last, big.NewInt(a)).BitLen() <= topBits {
			t.Fatalf("%d to the power %d is not the last one", a, n)
		}
		got, e := whole.Pow(small(a), n)
		want(t, "the last power", got, e, number(last))
		got, e = whole.Pow(small(a), n+1)
		wantRefused(t, "the next power", got, e, api.ErrBig)
	}
	for _, a := range []api.Whole{small(2), small(-2), small(3), power2(40), top(), below(top())} {
		for _, n := range []int{topBits, 1 << 40, math.MaxInt} {
			got, e := whole.Pow(a, n)
			wantRefused(t, "a huge power", got, e, api.ErrBig)
		}
	}
	got, e := whole.Pow(power2(topBits/2), 2)
	wantRefused(t, "a square of one bit too many", got, e, api.ErrBig)
	got, e = whole.Pow(power2(topBits/2-1), 2)
	want(t, "a square of one bit less", got, e, power2(topBits-2))
	for _, n := range []int{-1, math.MinInt} {
		for _, a := range good() {
			got, e = whole.Pow(a, n)
			wantRefused(t, "a power below 0", got, e, api.ErrArg)
		}
	}
	for _, a := range wrong() {
		for _, n := range []int{-1, 0, 1, 2, math.MaxInt} {
			got, e = whole.Pow(a, n)
			wantRefused(t, "a power of a wrong one", got, e, api.ErrArg)
		}
	}
}

func wantGcd(t *testing.T, a, b *big.Int) {
	t.Helper()
	wanted := new(big.Int).GCD(nil, nil, new(big.Int).Abs(a), new(big.Int).Abs(b))
	if got, e := whole.Gcd(number(a), number(b)); got != number(wanted) || e != api.OK {
		t.Errorf("of %v and %v: %s, %v, want %v", a, b, brief(got), e, wanted)
	}
}

func TestGcd(t *testing.T) { // P2.4
	pairs(t, func(a, b *big.Int) { wantGcd(t, a, b) })
	r := rand.New(rand.NewSource(13))
	for range 5000 {
		all := odds(r, 8)
		wantGcd(t, new(big.Int).Mul(all, odds(r, 8)), new(big.Int).Mul(all, odds(r, 8)))
	}
	// Of these all quotients are 1, so that there are most of them.
	a, b := big.NewInt(1), big.NewInt(1)
	for range 2000 {
		wantGcd(t, a, b)
		a, b = b, a.Add(a, b)
	}
}

func TestGcdOfLists(t *testing.T) { // P2.4
	for _, x := range []struct {
		l    []int64
		want int64
	}{
		{nil, 0}, {[]int64{0}, 0}, {[]int64{0, 0, 0}, 0}, {[]int64{-5}, 5}, {[]int64{12, -18, 0}, 6}, {[]int64{0, 12, -18}, 6},
		{[]int64{6, 10, 15}, 1}, {[]int64{-4, -4}, 4}, {[]int64{math.MinInt64, 12}, 4}, {[]int64{30, 42, 70, 105}, 1},
	} {
		var l []api.Whole
		for _, n := range x.l {
			l = append(l, small(n))
		}
		got, e := whole.Gcd(l...)
		want(t, "the divisor", got, e, small(x.want))
	}
	six := number(new(big.Int).Mul(big.NewInt(6), bigOf(power2(500))))
	ten := number(new(big.Int).Mul(big.NewInt(10), bigOf(power2(480))))
	got, e := whole.Gcd(six, below(ten), power2(481), api.Whole{})
	want(t, "the divisor", got, e, power2(481))
	got, e = whole.Gcd(below(top()))
	want(t, "the divisor of one", got, e, top())
	for _, a := range wrong() {
		for _, l := range [][]api.Whole{{a}, {a, small(1)}, {small(1), a}, {top(), small(1), a}, {a, a}} {
			got, e = whole.Gcd(l...)
			wantRefused(t, "a wrong one among them", got, e, api.ErrArg)
		}
	}
}

func TestGcdAtTheBound(t *testing.T) { // P2.4
	less := new(big.Int).Sub(bigOf(top()), big.NewInt(1))
	wantGcd(t, bigOf(top()), less)
	wantGcd(t, bigOf(top()), bigOf(below(top())))
	wantGcd(t, bigOf(power2(topBits-1)), bigOf(top()))
	wantGcd(t, bigOf(top()), new(big.Int).Sub(bigOf(power2(topBits/2)), big.NewInt(1)))
	wantGcd(t, bigOf(top()), big.NewInt(255))
	wantGcd(t, big.NewInt(0), bigOf(below(top())))
}

func wantRoot(t *testing.T, a *big.Int) {
	t.Helper()
	root := new(big.Int).Sqrt(a)
	rest := new(big.Int).Sub(a, new(big.Int).Mul(root, root))
	gotRoot, gotRest, e := whole.Root(number(a))
	if gotRoot != number(root) || gotRest != number(rest) || e != api.OK {
		t.Errorf("the root of %v is %s, %s, %v", a, brief(gotRoot), brief(gotRest), e)
	}
	gotRoot, square := whole.Square(number(a))
	wanted := api.Whole{}
	if rest.Sign() == 0 {
		wanted = number(root)
	}
	if gotRoot != wanted || square != (rest.Sign() == 0) {
		t.Errorf("%v as a square: %s, %v", a, brief(gotRoot), square)
	}
}

func TestRootAndSquare(t *testing.T) { // P2.4
	for n := range int64(3000) {
		wantRoot(t, big.NewInt(n))
	}
	r := rand.New(rand.NewSource(17))
	one := big.NewInt(1)
	for i := range 4000 {
		a := odds(r, 1+i%20)
		a.Abs(a)
		wantRoot(t, a)
		square := new(big.Int).Mul(a, a)
		wantRoot(t, square)
		wantRoot(t, new(big.Int).Add(square, one))
		if a.Sign() > 0 {
			wantRoot(t, new(big.Int).Sub(square, one))
		}
	}
	for _, a := range []api.Whole{top(), power2(topBits - 1), power2(topBits - 2)} {
		wantRoot(t, bigOf(a))
	}
	half := new(big.Int).Sub(bigOf(power2(topBits/2)), one)
	square := new(big.Int).Mul(half, half)
	wantRoot(t, square)
	wantRoot(t, square.Sub(square, one))
}

func TestRootRefuses(t *testing.T) { // P2.4
	for _, a := range []api.Whole{small(-1), small(-4), below(power2(100)), below(top())} {
		if root, rest, e := whole.Root(a); root != (api.Whole{}) || rest != (api.Whole{}) || e != api.ErrNone {
			t.Errorf("the root of %s is %s, %s, %v", brief(a), brief(root), brief(rest), e)
		}
		if root, ok := whole.Square(a); root != (api.Whole{}) || ok {
			t.Errorf("%s as a square: %s, %v", brief(a), brief(root), ok)
		}
	}
	for _, a := range wrong() {
		if root, rest, e := whole.Root(a); root != (api.Whole{}) || rest != (api.Whole{}) || e != api.ErrArg {
			t.Errorf("the root of a wrong one is %s, %s, %v", brief(root), brief(rest), e)
		}
		if root, ok := whole.Square(a); root != (api.Whole{}) || ok {
			t.Errorf("a wrong one as a square: %s, %v", brief(root), ok)
		}
	}
}
