package whole_test

import (
	"math"
	"math/big"
	"math/rand"
	"testing"

	"tracery/api"
	"tracery/whole"
)

func wantDivided(t *testing.T, a, b *big.Int) {
	t.Helper()
	quo, rest := new(big.Int).DivMod(a, b, new(big.Int))
	gotQuo, gotRest, e := whole.Div(number(a), number(b))
	if gotQuo != number(quo) || gotRest != number(rest) || e != api.OK {
		t.Errorf("%v by %v is %s, %s, %v", a, b, brief(gotQuo), brief(gotRest), e)
	}
}

func TestDiv(t *testing.T) { // P2.3
	for _, x := range []struct{ a, b, quo, rest int64 }{
		{7, 2, 3, 1}, {-7, 2, -4, 1}, {7, -2, -3, 1}, {-7, -2, 4, 1}, {-6, 3, -2, 0}, {-6, -3, 2, 0}, {0, -3, 0, 0}, {-1, 5, -1, 4}, {-1, -5, 1, 4},
	} {
		quo, rest, e := whole.Div(small(x.a), small(x.b))
		if quo != small(x.quo) || rest != small(x.rest) || e != api.OK {
			t.Errorf("%d by %d is %s, %s, %v", x.a, x.b, brief(quo), brief(rest), e)
		}
	}
	pairs(t, func(a, b *big.Int) {
		if b.Sign() != 0 {
			wantDivided(t, a, b)
		}
	})
}

// Numbers just below a multiple, so that a guessed digit is one too great.
func TestDivBesideMultiples(t *testing.T) { // P2.3
	r := rand.New(rand.NewSource(7))
	for range 20000 {
		b, quo := odds(r, 6), odds(r, 6)
		if b.Sign() == 0 {
			continue
		}
		a := new(big.Int).Mul(b, quo)
		wantDivided(t, a, b)
		wantDivided(t, a.Sub(a, big.NewInt(1)), b)
		wantDivided(t, a.Add(a, big.NewInt(2)), b)
	}
	// The divisor's first digits alone let 2^32 and more be guessed.
	first := new(big.Int).Lsh(big.NewInt(1<<31), 64)
	b := new(big.Int).Add(first, big.NewInt(1))
	for _, less := range []int64{0, 1, 2} {
		a := new(big.Int).Lsh(first, 32)
		wantDivided(t, a.Sub(a, big.NewInt(less)), b)
	}
}

func TestDivRefuses(t *testing.T) { // P2.3
	for _, a := range good() {
		if quo, rest, e := whole.Div(a, api.Whole{}); quo != (api.Whole{}) || rest != (api.Whole{}) || e != api.ErrZero {
			t.Errorf("%s by 0: %s, %s, %v", brief(a), brief(quo), brief(rest), e)
		}
		for _, b := range wrong() {
			for _, pair := range [][2]api.Whole{{a, b}, {b, a}, {b, b}} {
				if quo, rest, e := whole.Div(pair[0], pair[1]); quo != (api.Whole{}) || rest != (api.Whole{}) || e != api.ErrArg {
					t.Errorf("a wrong one beside %s: %s, %s, %v", brief(a), brief(quo), brief(rest), e)
				}
			}
		}
	}
}

func TestDivAtTheBound(t *testing.T) { // P2.3
	for _, a := range []api.Whole{top(), below(top()), power2(topBits - 1), below(power2(topBits - 1))} {
		for _, b := range []api.Whole{small(1), small(-1), small(2), small(-2), small(3), power2(40), power2(topBits / 2), top(), below(top()), power2(topBits - 1)} {
			wantDivided(t, bigOf(a), bigOf(b))
		}
	}
	for _, a := range []int64{0, 1, -1} {
		wantDivided(t, big.NewInt(a), bigOf(top()))
		wantDivided(t, big.NewInt(a), bigOf(below(top())))
	}
}

func TestShift(t *testing.T) { // P2.3
	for _, a := range edges() {
		for n := range 140 {
			got, e := whole.Shift(number(a), n)
			want(t, "shifted up", got, e, number(new(big.Int).Lsh(a, uint(n))))
			got, e = whole.Shift(number(a), -n)
			want(t, "shifted down", got, e, number(new(big.Int).Rsh(a, uint(n))))
		}
	}
	r := rand.New(rand.NewSource(9))
	for range 3000 {
		a, n := odds(r, 20), r.Intn(700)
		got, e := whole.Shift(number(a), n)
		want(t, "shifted up", got, e, number(new(big.Int).Lsh(a, uint(n))))
		got, e = whole.Shift(number(a), -n)
		want(t, "shifted down", got, e, number(new(big.Int).Rsh(a, uint(n))))
	}
}

func TestShiftAtTheBound(t *testing.T) { // P2.3
	for _, x := range []struct {
		a    api.Whole
		n    int
		want api.Whole
		e    api.Errno
	}{
		{small(-5), -1, small(-3), api.OK}, {small(-1), -99, small(-1), api.OK}, {small(5), 2, small(20), api.OK},
		{small(1), topBits - 1, power2(topBits - 1), api.OK}, {small(1), topBits, api.Whole{}, api.ErrBig},
		{small(-1), topBits - 1, below(power2(topBits - 1)), api.OK}, {small(-1), topBits, api.Whole{}, api.ErrBig},
		{small(3), topBits - 2, number(new(big.Int).Lsh(big.NewInt(3), topBits-2)), api.OK}, {small(3), topBits - 1, api.Whole{}, api.ErrBig},
		{top(), 0, top(), api.OK}, {top(), 1, api.Whole{}, api.ErrBig}, {top(), math.MaxInt, api.Whole{}, api.ErrBig}, {small(1), math.MaxInt, api.Whole{}, api.ErrBig},
		{api.Whole{}, math.MaxInt, api.Whole{}, api.OK}, {api.Whole{}, math.MinInt, api.Whole{}, api.OK}, {api.Whole{}, topBits, api.Whole{}, api.OK},
		{top(), 1 - topBits, small(1), api.OK}, {top(), -topBits, api.Whole{}, api.OK}, {top(), math.MinInt, api.Whole{}, api.OK},
		{below(top()), 1 - topBits, small(-2), api.OK}, {below(top()), -topBits, small(-1), api.OK}, {below(top()), math.MinInt, small(-1), api.OK},
		{below(power2(topBits - 1)), 1 - topBits, small(-1), api.OK}, {small(-1), math.MinInt + 1, small(-1), api.OK},
	} {
		if got, e := whole.Shift(x.a, x.n); got != x.want || e != x.e {
			t.Errorf("%s by %d is %s, %v", brief(x.a), x.n, brief(got), e)
		}
	}
	for _, a := range wrong() {
		for _, n := range []int{0, 1, -1, topBits, math.MaxInt, math.MinInt} {
			got, e := whole.Shift(a, n)
			wantRefused(t, "a wrong one shifted", got, e, api.ErrArg)
		}
	}
}
