package whole_test

import (
	"math/big"
	"math/rand"
	"slices"
	"testing"

	"tracery/api"
	"tracery/whole"
)

type ofTwo = func(a, b api.Whole) (api.Whole, api.Errno)

func wantPair(t *testing.T, what string, do ofTwo, a, b *big.Int, by func(z, a, b *big.Int) *big.Int) {
	t.Helper()
	wanted := number(by(new(big.Int), a, b))
	if got, e := do(number(a), number(b)); got != wanted || e != api.OK {
		t.Errorf("%s of %v and %v is %s, %v", what, a, b, brief(got), e)
	}
}

func TestSumsOfTwo(t *testing.T) { // P2.2
	pairs(t, func(a, b *big.Int) {
		wantPair(t, "the sum", whole.Add, a, b, (*big.Int).Add)
		wantPair(t, "the difference", whole.Sub, a, b, (*big.Int).Sub)
		wantPair(t, "the product", whole.Mul, a, b, (*big.Int).Mul)
	})
}

func TestWrongPairs(t *testing.T) { // P2.2
	for _, do := range []ofTwo{whole.Add, whole.Sub, whole.Mul} {
		for _, a := range wrong() {
			for _, b := range append(good(), wrong()...) {
				got, e := do(a, b)
				wantRefused(t, "a wrong one ahead", got, e, api.ErrArg)
				got, e = do(b, a)
				wantRefused(t, "a wrong one behind", got, e, api.ErrArg)
			}
		}
	}
}

func TestSumsAtTheBound(t *testing.T) { // P2.2
	least := below(top())
	one, two := small(1), small(2)
	before := number(new(big.Int).Sub(bigOf(top()), big.NewInt(1)))
	for _, x := range []struct {
		what string
		do   ofTwo
		a, b api.Whole
		want api.Whole
		e    api.Errno
	}{
		{"top + 1", whole.Add, top(), one, api.Whole{}, api.ErrBig},
		{"1 + top", whole.Add, one, top(), api.Whole{}, api.ErrBig},
		{"top - 1 + 1", whole.Add, before, one, top(), api.OK},
		{"top + top", whole.Add, top(), top(), api.Whole{}, api.ErrBig},
		{"top - top", whole.Add, top(), least, api.Whole{}, api.OK},
		{"-top - 1", whole.Sub, least, one, api.Whole{}, api.ErrBig},
		{"top less -1", whole.Sub, top(), small(-1), api.Whole{}, api.ErrBig},
		{"top less 1", whole.Sub, top(), one, before, api.OK},
		{"0 less top", whole.Sub, api.Whole{}, top(), least, api.OK},
		{"-top less -top", whole.Sub, least, least, api.Whole{}, api.OK},
		{"top times 1", whole.Mul, top(), small(-1), least, api.OK},
		{"top times 0", whole.Mul, least, api.Whole{}, api.Whole{}, api.OK},
		{"top times 2", whole.Mul, top(), two, api.Whole{}, api.ErrBig},
		{"-top times top", whole.Mul, least, top(), api.Whole{}, api.ErrBig},
		{"the highest bit, by halves", whole.Mul, power2(topBits / 2), power2(topBits/2 - 1), power2(topBits - 1), api.OK},
		{"one past it, by halves", whole.Mul, power2(topBits / 2), power2(topBits / 2), api.Whole{}, api.ErrBig},
	} {
		if got, e := x.do(x.a, x.b); got != x.want || e != x.e {
			t.Errorf("%s is %s, %v", x.what, brief(got), e)
		}
	}
}

func TestSum(t *testing.T) { // P2.2
	r := rand.New(rand.NewSource(5))
	for n := range 200 {
		var l []api.Whole
		wanted := new(big.Int)
		for range n % 40 {
			a := odds(r, 1+r.Intn(12))
			l = append(l, number(a))
			wanted.Add(wanted, a)
		}
		got, e := whole.Sum(l...)
		want(t, "the sum", got, e, number(wanted))
	}
	got, e := whole.Sum()
	want(t, "the sum of none", got, e, api.Whole{})
	got, e = whole.Sum(small(-7))
	want(t, "the sum of one", got, e, small(-7))
}

func TestSumGoesOverTheBoundAndBack(t *testing.T) { // P2.2
	least := below(top())
	got, e := whole.Sum(top(), small(1), small(-1))
	want(t, "top + 1 - 1", got, e, top())
	got, e = whole.Sum(least, least, least, top(), small(5), top(), top())
	want(t, "all away but 5", got, e, small(5))
	got, e = whole.Sum(least, small(-1), small(1))
	want(t, "-top - 1 + 1", got, e, least)
	got, e = whole.Sum(top(), small(1))
	wantRefused(t, "top + 1", got, e, api.ErrBig)
	got, e = whole.Sum(least, small(2), small(-3))
	wantRefused(t, "-top - 1", got, e, api.ErrBig)
	for _, a := range wrong() {
		got, e = whole.Sum(top(), top(), a)
		wantRefused(t, "a wrong one last", got, e, api.ErrArg)
		got, e = whole.Sum(a, small(1), top(), top())
		wantRefused(t, "a wrong one first", got, e, api.ErrArg)
		got, e = whole.Sum(a)
		wantRefused(t, "a wrong one alone", got, e, api.ErrArg)
	}
}

func TestSumOfVeryMany(t *testing.T) { // P2.2
	l := slices.Repeat([]api.Whole{small(3), small(-1)}, 100000)
	l[0] = top()
	got, e := whole.Sum(append(l, below(top()))...)
	want(t, "the sum", got, e, small(200000-3))
}

func TestListsStayAsTheyAre(t *testing.T) { // P2.2, P2.4
	l := []api.Whole{small(12), small(-18), power2(100), top(), small(77), {Neg: true}}
	was := slices.Clone(l)
	whole.Sum(l[:4]...)
	whole.Gcd(l[:4]...)
	whole.Sum(l...)
	whole.Gcd(l...)
	if !slices.Equal(l, was) {
		t.Error("a list has changed")
	}
}
