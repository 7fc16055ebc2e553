package gauss_test

import (
	"math/rand"
	"slices"
	"testing"

	"tracery/api"
	"tracery/frac"
	"tracery/gauss"
)

// triples goes over threes of numbers.
func triples(do func(z, w, v api.Gauss)) {
	near := []api.Gauss{
		gauss.Int(0, 0), gauss.Int(1, 0), gauss.Int(0, -1), gauss.Int(1, 1), {Re: over(1, 2), Im: over(-3, 2)},
		{Re: over(-22, 7), Im: over(0, 1)}, {Re: over(3, 5), Im: over(4, 5)}, {Re: over(1<<40, 3), Im: over(1, 256)},
	}
	for _, z := range near {
		for _, w := range near {
			for _, v := range near {
				do(z, w, v)
			}
		}
	}
	r := rand.New(rand.NewSource(14))
	for range 500 {
		do(odd(r, 8).number(), odd(r, 8).number(), odd(r, 8).number())
	}
	for range 3 {
		do(odd(r, 40).number(), odd(r, 40).number(), odd(r, 40).number())
	}
}

func TestOrderAndGrouping(t *testing.T) { // P4.7, P0.1
	ok := must(t)
	triples(func(z, w, v api.Gauss) {
		for _, op := range []struct {
			two ofTwo
			all ofMany
		}{{gauss.Add, gauss.Sum}, {gauss.Mul, gauss.Product}} {
			all := ok(op.two(ok(op.two(z, w)), v))
			if ok(op.two(z, w)) != ok(op.two(w, z)) || ok(op.two(z, ok(op.two(w, v)))) != all {
				t.Fatalf("%s, %s, %s by twos", brief(z), brief(w), brief(v))
			}
			if ok(op.all(z, w, v)) != all || ok(op.all(v, z, w)) != all || ok(op.all(w, v, z)) != all || ok(op.all(z, w)) != ok(op.two(z, w)) {
				t.Fatalf("%s, %s, %s together", brief(z), brief(w), brief(v))
			}
		}
		if ok(gauss.Mul(z, ok(gauss.Add(w, v)))) != ok(gauss.Add(ok(gauss.Mul(z, w)), ok(gauss.Mul(z, v)))) {
			t.Fatalf("%s times the sum of %s, %s", brief(z), brief(w), brief(v))
		}
	})
}

func TestOrderOfLists(t *testing.T) { // P4.7, P0.1
	ok := must(t)
	r := rand.New(rand.NewSource(15))
	for range 20 {
		var l []api.Gauss
		for range 1 + r.Intn(12) {
			l = append(l, odd(r, 4).number())
		}
		sum, product := ok(gauss.Sum(l...)), ok(gauss.Product(l...))
		for range 5 {
			r.Shuffle(len(l), func(i, j int) { l[i], l[j] = l[j], l[i] })
			at := r.Intn(len(l) + 1)
			if ok(gauss.Sum(l...)) != sum || ok(gauss.Add(ok(gauss.Sum(l[:at]...)), ok(gauss.Sum(l[at:]...)))) != sum {
				t.Fatal("a sum hangs on the order")
			}
			if ok(gauss.Product(l...)) != product || ok(gauss.Mul(ok(gauss.Product(l[:at]...)), ok(gauss.Product(l[at:]...)))) != product {
				t.Fatal("a product hangs on the order")
			}
		}
	}
}

func TestThereAndBack(t *testing.T) { // P4.7, P0.12
	ok := must(t)
	triples(func(z, w, v api.Gauss) {
		if ok(gauss.Sub(ok(gauss.Add(z, w)), w)) != z || ok(gauss.Add(z, ok(gauss.Neg(w)))) != ok(gauss.Sub(z, w)) {
			t.Fatalf("%s with and without %s", brief(z), brief(w))
		}
		if !gauss.Zero(w) && ok(gauss.Div(ok(gauss.Mul(z, w)), w)) != z {
			t.Fatalf("%s times and over %s", brief(z), brief(w))
		}
		s, e := gauss.Text(z)
		if e != api.OK || ok(gauss.Read(s)) != z {
			t.Fatalf("read from its text, %s is another one", brief(z))
		}
		if ok(gauss.Of(z.Re, z.Im)) != z || ok(gauss.Conj(ok(gauss.Conj(z)))) != z {
			t.Fatalf("%s by its parts, or its conjugate's, is another one", brief(z))
		}
	})
}

func TestNormsAndConjugates(t *testing.T) { // P4.7
	ok := must(t)
	is := func(x api.Frac, e api.Errno) api.Frac {
		t.Helper()
		if e != api.OK || !frac.May(x) {
			t.Fatal(briefFrac(x), e)
		}
		return x
	}
	triples(func(z, w, v api.Gauss) {
		if is(gauss.Norm(ok(gauss.Mul(z, w)))) != is(frac.Mul(is(gauss.Norm(z)), is(gauss.Norm(w)))) {
			t.Fatalf("the norm of %s times %s", brief(z), brief(w))
		}
		for _, does := range []ofTwo{gauss.Add, gauss.Mul} {
			if ok(gauss.Conj(ok(does(z, w)))) != ok(does(ok(gauss.Conj(z)), ok(gauss.Conj(w)))) {
				t.Fatalf("the conjugate of %s and %s together", brief(z), brief(w))
			}
		}
		if ok(gauss.Turn(ok(gauss.Turn(z)))) != ok(gauss.Neg(z)) || ok(gauss.Turn(z)) != ok(gauss.Mul(gauss.Int(0, 1), z)) {
			t.Fatalf("%s turned", brief(z))
		}
		product := ok(gauss.Mul(ok(gauss.Conj(z)), w))
		if is(gauss.Dot(z, w)) != product.Re || is(gauss.Cross(z, w)) != product.Im || is(gauss.Dot(z, z)) != is(gauss.Norm(z)) {
			t.Fatalf("the products of %s and %s", brief(z), brief(w))
		}
		if ok(gauss.Scale(z, w.Re)) != ok(gauss.Mul(z, api.Gauss{Re: w.Re, Im: over(0, 1)})) {
			t.Fatalf("%s scaled", brief(z))
		}
	})
}

func TestRootsAndPowers(t *testing.T) { // P4.7
	ok := must(t)
	triples(func(z, w, v api.Gauss) {
		square := ok(gauss.Mul(z, z))
		root := ok(gauss.Sqrt(square))
		if root != z && root != ok(gauss.Neg(z)) || ok(gauss.Mul(root, root)) != square {
			t.Fatalf("the root of the square of %s is %s", brief(z), brief(root))
		}
		if root, e := gauss.Sqrt(w); e == api.OK && ok(gauss.Mul(root, root)) != w || e != api.OK && e != api.ErrNone {
			t.Fatalf("the root of %s: %s, %v", brief(w), brief(root), e)
		}
		l := slices.Repeat([]api.Gauss{v}, 5)
		if ok(gauss.Pow(v, 5)) != ok(gauss.Product(l...)) || ok(gauss.Pow(v, 2)) != ok(gauss.Mul(v, v)) {
			t.Fatalf("powers of %s", brief(v))
		}
	})
}
