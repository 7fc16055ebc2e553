package meet_test

import (
	"math/big"
	"math/rand"
	"testing"

	"tracery/api"
	"tracery/meet"
)

// wantTwo wants what the chapter says of how two circles lie.
func wantTwo(t *testing.T, k, l ring) {
	t.Helper()
	c, d, what := k.circle(), l.circle(), briefRings(k, l)
	product := k.product(l)
	got, e := meet.Product(c, d)
	wantFrac(t, "the product of"+what, got, e, product)
	got, e = meet.Square(c, d)
	wantFrac(t, "the square of"+what, got, e, quo(times(product, product), times(k.power(), l.power())))
	if lies, e := meet.Lies(c, d); lies != k.lies(l) || e != api.OK {
		t.Fatalf("%s lie %v, %v, want %v", what, lies, e, k.lies(l))
	}
	if up, e := meet.Upright(c, d); up != k.upright(l) || e != api.OK {
		t.Fatalf("%s are upright: %v, %v", what, up, e)
	}
}

func TestTwo(t *testing.T) { // P13.1
	seen := tally{}
	pairs(func(k, l ring) {
		wantTwo(t, k, l)
		seen[[]string{"Same", "Touching", "Crossing", "Apart"}[k.lies(l)]]++
		if k.upright(l) {
			seen["upright"]++
		}
	})
	seen.least(t, 50, "Same", "Touching", "Crossing", "Apart", "upright")
}

func TestTwoExamples(t *testing.T) { // P13.1
	line := beside(rat(1, 1))
	for _, x := range []struct {
		k, l            ring
		product, square api.Frac
		lies            api.Lying
		up              bool
	}{
		{o(0, 0, 1), o(1, 0, 1), over(1, 2), over(1, 4), api.LiesCrossing, false},
		{o(0, 0, 1), o(0, 0, 1), over(1, 1), over(1, 1), api.LiesSame, false},
		{o(0, 0, 3), o(0, 0, 3), over(9, 1), over(1, 1), api.LiesSame, false},
		{line, line, over(1, 1), over(1, 1), api.LiesSame, false},
		{o(0, 0, 1), o(2, 0, 1), over(-1, 1), over(1, 1), api.LiesTouching, false},
		{o(0, 0, 2), o(1, 0, 1), over(2, 1), over(1, 1), api.LiesTouching, false}, // from inside
		{o(0, 0, 1), o(3, 0, 1), over(-7, 2), over(49, 4), api.LiesApart, false},
		{o(0, 0, 1), o(0, 0, 2), over(5, 2), over(25, 16), api.LiesApart, false}, // about one centre
		{o(0, 0, 5), o(1, 1, 1), over(12, 1), over(144, 25), api.LiesApart, false},
		{o(0, 0, 1), line, over(1, 1), over(1, 1), api.LiesTouching, false},
		{o(0, 0, 1), beside(rat(2, 1)), over(2, 1), over(4, 1), api.LiesApart, false},
		{o(0, 0, 1), reals(), over(0, 1), over(0, 1), api.LiesCrossing, true},
		{line, ups(), over(1, 1), over(1, 1), api.LiesTouching, false}, // side by side
		{line, reals(), over(0, 1), over(0, 1), api.LiesCrossing, true},
		{ringed(0, 1, 1, 0), reals(), over(1, 1), over(1, 2), api.LiesCrossing, false},
		{o(0, 0, 3), o(5, 0, 4), over(0, 1), over(0, 1), api.LiesCrossing, true},
	} {
		wantTwo(t, x.k, x.l)
		c, d, what := x.k.circle(), x.l.circle(), briefRings(x.k, x.l)
		if got, e := meet.Product(c, d); got != x.product || e != api.OK {
			t.Errorf("the product of%s is %s, %v", what, briefFrac(got), e)
		}
		if got, e := meet.Square(c, d); got != x.square || e != api.OK {
			t.Errorf("the square of%s is %s, %v", what, briefFrac(got), e)
		}
		if got, e := meet.Lies(c, d); got != x.lies || e != api.OK {
			t.Errorf("%s lie %v, %v", what, got, e)
		}
		if got, e := meet.Upright(c, d); got != x.up || e != api.OK {
			t.Errorf("%s are upright: %v, %v", what, got, e)
		}
	}
}

func TestTwoAtTheBound(t *testing.T) { // P13.1
	most := ofInt(top())
	lined := func(c *big.Rat) ring { return ring{none(), in(1, 0), c} }
	sized := func(re, c *big.Rat) ring { return ring{rat(1, 1), real(re), c} }
	for _, x := range []struct {
		k, l            ring
		product, square api.Errno
	}{
		{lined(rat(-2, 1)), sized(most, none()), api.ErrBig, api.ErrBig},
		{lined(rat(-2, 1)), sized(minus(most, rat(1, 1)), none()), api.OK, api.ErrBig},
		{lined(rat(2, 1)), sized(opposite(most), none()), api.ErrBig, api.ErrBig},
		{lined(rat(-2, 1)), sized(rat(-1, 1), opposite(most)), api.OK, api.OK},
		{lined(under(top())), sized(none(), rat(-1, 1)), api.ErrBig, api.ErrBig}, // half of what may be
		{unit(), lined(ofInt(new(big.Int).Lsh(root(), 1))), api.OK, api.ErrBig},
		{unit(), lined(ofInt(new(big.Int).Lsh(less(root(), 1), 1))), api.OK, api.OK},
		{sized(none(), opposite(most)), lined(none()), api.OK, api.OK},
		{sized(none(), opposite(most)), sized(none(), opposite(most)), api.OK, api.OK},
		{sized(none(), opposite(most)), sized(none(), minus(rat(1, 1), most)), api.ErrBig, api.ErrBig},
		{sized(most, none()), sized(most, none()), api.ErrBig, api.OK}, // its power is too long, the square is 1
		{lined(most), lined(opposite(under(top()))), api.OK, api.OK},
	} {
		wantTwo(t, x.k, x.l)
		wantTwo(t, x.l, x.k)
		if _, e := meet.Product(x.k.circle(), x.l.circle()); e != x.product {
			t.Errorf("the product of%s: %v, want %v", briefRings(x.k, x.l), e, x.product)
		}
		if _, e := meet.Square(x.k.circle(), x.l.circle()); e != x.square {
			t.Errorf("the square of%s: %v, want %v", briefRings(x.k, x.l), e, x.square)
		}
	}
	r := rand.New(rand.NewSource(1310))
	products, squares := tally{}, tally{}
	for n := range 60 {
		k, l := fullRing(r, 165+n/6), fullRing(r, 165+n/6)
		products.fit(upTo(k.product(l)))
		wantTwo(t, k, l)
		k, l = fullRing(r, 109+n/6), fullLine(r, 109+n/6)
		product := k.product(l)
		squares.fit(upTo(quo(times(product, product), times(k.power(), l.power()))))
		wantTwo(t, k, l)
	}
	products.least(t, 3, "fits", "too big")
	squares.least(t, 3, "fits", "too big")
}

// How two lie does not hang on lengths: circles that nearly touch, and ones that
// do, of numbers as long as may be.
func TestTwoThatNearlyTouch(t *testing.T) { // P13.1
	near := under(new(big.Int).Rsh(root(), 2))
	for _, x := range []struct {
		k, l ring
		lies api.Lying
	}{
		{o(0, 0, 1), about(real(plus(rat(2, 1), near)), rat(1, 1)), api.LiesApart},
		{o(0, 0, 1), about(real(minus(rat(2, 1), near)), rat(1, 1)), api.LiesCrossing},
		{o(0, 0, 1), about(real(plus(rat(1, 1), near)), times(near, near)), api.LiesTouching},
		{o(0, 0, 1), about(real(minus(rat(1, 1), near)), times(near, near)), api.LiesTouching},
		{o(0, 0, 1), beside(plus(rat(1, 1), near)), api.LiesApart},
		{o(0, 0, 1), beside(minus(rat(1, 1), near)), api.LiesCrossing},
		{ups(), beside(near), api.LiesTouching},
		{ups(), ring{none(), num{rat(1, 1), under(top())}, ofInt(top())}, api.LiesCrossing},
	} {
		wantTwo(t, x.k, x.l)
		if lies, e := meet.Lies(x.k.circle(), x.l.circle()); lies != x.lies || e != api.OK {
			t.Errorf("%s lie %v, %v, want %v", briefRings(x.k, x.l), lies, e, x.lies)
		}
	}
}

func TestTwoRefuse(t *testing.T) { // P13.1
	good := []api.Circle{unit().circle(), reals().circle(), longs()[0].circle(), {}}
	refused := func(c, d api.Circle) {
		t.Helper()
		x, e := meet.Product(c, d)
		wantNone(t, "the product", x, e, api.ErrArg)
		x, e = meet.Square(c, d)
		wantNone(t, "the square", x, e, api.ErrArg)
		lies, e := meet.Lies(c, d)
		wantNone(t, "how they lie", lies, e, api.ErrArg)
		up, e := meet.Upright(c, d)
		wantNone(t, "are they upright", up, e, api.ErrArg)
	}
	for _, c := range wrongCircles() {
		refused(c, c)
		for _, d := range good {
			refused(c, d)
			refused(d, c)
		}
	}
}
