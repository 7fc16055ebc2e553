package whole_test

import (
	"math/rand"
	"slices"
	"testing"

	"tracery/api"
	"tracery/whole"
)

// must is for calls that refuse nothing here.
func must(t *testing.T) func(a api.Whole, e api.Errno) api.Whole {
	return func(a api.Whole, e api.Errno) api.Whole {
		t.Helper()
		if e != api.OK {
			t.Fatal(e)
		}
		return a
	}
}

// triples goes over threes of numbers, short and long.
func triples(do func(a, b, c api.Whole)) {
	short := []api.Whole{{}, small(1), small(-1), small(2), small(-255), small(256), power2(31), below(power2(32)), power2(64), below(power2(96))}
	for _, a := range short {
		for _, b := range short {
			for _, c := range short {
				do(a, b, c)
			}
		}
	}
	r := rand.New(rand.NewSource(23))
	for range 5000 {
		do(number(odds(r, 10)), number(odds(r, 10)), number(odds(r, 10)))
	}
}

func TestOrderAndGrouping(t *testing.T) { // P2.6, P0.1
	ok := must(t)
	triples(func(a, b, c api.Whole) {
		for _, do := range []ofTwo{whole.Add, whole.Mul} {
			if ok(do(a, b)) != ok(do(b, a)) || ok(do(ok(do(a, b)), c)) != ok(do(a, ok(do(b, c)))) {
				t.Fatalf("%s, %s, %s", brief(a), brief(b), brief(c))
			}
		}
		if ok(whole.Mul(a, ok(whole.Add(b, c)))) != ok(whole.Add(ok(whole.Mul(a, b)), ok(whole.Mul(a, c)))) {
			t.Fatalf("%s times the sum of %s, %s", brief(a), brief(b), brief(c))
		}
		if ok(whole.Sum(a, b, c)) != ok(whole.Add(a, ok(whole.Add(b, c)))) || ok(whole.Sum(c, a, b)) != ok(whole.Sum(a, b, c)) {
			t.Fatalf("the sum of %s, %s, %s", brief(a), brief(b), brief(c))
		}
		if ok(whole.Sub(ok(whole.Add(a, b)), b)) != a {
			t.Fatalf("%s, with and without %s", brief(a), brief(b))
		}
	})
}

func TestShiftThereAndBack(t *testing.T) { // P2.6
	ok := must(t)
	triples(func(a, b, c api.Whole) {
		for _, n := range []int{0, 1, 7, 8, 31, 32, 33, 1000} {
			if ok(whole.Shift(ok(whole.Shift(a, n)), -n)) != a {
				t.Fatalf("%s by %d", brief(a), n)
			}
		}
	})
	if ok(whole.Shift(ok(whole.Shift(small(-1), topBits-1)), 1-topBits)) != small(-1) {
		t.Error("as far as may be")
	}
}

func TestGcdDividesAll(t *testing.T) { // P2.6
	ok := must(t)
	triples(func(a, b, c api.Whole) {
		l := []api.Whole{a, b, c}
		all := ok(whole.Gcd(l...))
		if ok(whole.Gcd(c, b, a)) != all || ok(whole.Gcd(ok(whole.Neg(b)), a, ok(whole.Abs(c)))) != all {
			t.Fatalf("of %s, %s, %s: it hangs on order or signs", brief(a), brief(b), brief(c))
		}
		if all == (api.Whole{}) {
			return
		}
		for i, x := range l {
			quo, rest, e := whole.Div(x, all)
			if rest != (api.Whole{}) || e != api.OK {
				t.Fatalf("%s does not divide %s", brief(all), brief(x))
			}
			l[i] = quo
		}
		if got := ok(whole.Gcd(l...)); got != small(1) {
			t.Fatalf("of the quotients: %s", brief(got))
		}
	})
}

func TestRootLeavesLittle(t *testing.T) { // P2.6
	ok := must(t)
	triples(func(a, b, c api.Whole) {
		a = ok(whole.Abs(a))
		root, rest, e := whole.Root(a)
		if e != api.OK || ok(whole.Add(ok(whole.Pow(root, 2)), rest)) != a {
			t.Fatalf("the root of %s: %s, %s, %v", brief(a), brief(root), brief(rest), e)
		}
		most, e := whole.Cmp(rest, ok(whole.Add(root, root)))
		if whole.Sign(root) < 0 || whole.Sign(rest) < 0 || most > 0 || e != api.OK {
			t.Fatalf("the root of %s leaves %s", brief(a), brief(rest))
		}
	})
}

func TestTextsThereAndBack(t *testing.T) { // P2.6, P0.12
	ok := must(t)
	l := slices.Concat(good(), []api.Whole{power2(topBits - 1), below(power2(topBits - 1))})
	for _, n := range decimals() {
		l = append(l, number(n))
	}
	for _, a := range l {
		s, e := whole.Text(a)
		if e != api.OK || ok(whole.Read(s)) != a {
			t.Fatalf("%s, %v", brief(a), e)
		}
		if again, e := whole.Text(ok(whole.Read(s))); again != s || e != api.OK {
			t.Fatalf("%.100q, %v", again, e)
		}
	}
}

func TestCmpIsTheSignOfSub(t *testing.T) { // P2.6
	ok := must(t)
	triples(func(a, b, c api.Whole) {
		got, e := whole.Cmp(a, b)
		if got != whole.Sign(ok(whole.Sub(a, b))) || e != api.OK {
			t.Fatalf("%s against %s: %d, %v", brief(a), brief(b), got, e)
		}
	})
}
