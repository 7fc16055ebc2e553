package chains_test

import (
	"math/big"
	"math/rand"
	"testing"

	"tracery/api"
	"tracery/chains"
)

func wantKnife(t *testing.T, x *big.Rat) {
	t.Helper()
	f := knife(x)
	if !f.touch() || f[3].centre().im.Sign() <= 0 {
		t.Fatal("that is no knife")
	}
	row, e := chains.Knife(fraction(x))
	wantRow(t, "Knife", row, e, f)
}

func wantHeight(t *testing.T, x *big.Rat, n int) {
	t.Helper()
	d := knife(x).at(n)
	high, wide := d.centre().im, d.radius()
	height, radius, e := chains.Height(fraction(x), n)
	got := [2]api.Frac{height, radius}
	if !upTo(high) || !upTo(wide) {
		wantNone(t, "Height", got, e, api.ErrBig)
		return
	}
	want(t, "Height", got, e, [2]api.Frac{fraction(high), fraction(wide)})
}

func TestStrip(t *testing.T) { // P22.5
	wanted := quad{balled(0, 0, -1, 0), balled(0, 0, 1, 4), balled(1, 0, 1, 0), balled(1, 2, 1, 4)}
	want(t, "Strip", chains.Strip(), api.OK, wanted.disks())
	want(t, "Strip", chains.Strip(), api.OK, strip().disks())
	if !wanted.touch() {
		t.Error("the strip's do not touch each other")
	}
	for n := -9; n <= 9; n++ {
		d, e := chains.At(chains.Strip(), n)
		want(t, "the strip's disk", d, e, about(in(2*int64(n), 1), rat(1, 1)).disk())
	}
}

// fractions are above 0 and below 1.
func fractions() []*big.Rat {
	r := rand.New(rand.NewSource(2250))
	var l []*big.Rat
	for q := int64(2); q <= 12; q++ {
		for p := int64(1); p < q; p++ {
			l = append(l, rat(p, q))
		}
	}
	for n := range 60 {
		p, q := full(r, 1+n/4), full(r, 1+n/4)
		if n%2 == 0 {
			p = full(r, 1+n/8)
		}
		if p.Cmp(q) > 0 {
			p, q = q, p
		}
		if p.Cmp(q) < 0 {
			l = append(l, new(big.Rat).SetFrac(p, q))
		}
	}
	for _, n := range []uint{10, 64, 400, 2000} { // close to 0, and to 1
		l = append(l, under(twos(n)), under(more(twos(n), 1)), minus(rat(1, 1), under(twos(n))), minus(rat(1, 1), under(more(twos(n), -1))))
	}
	return l
}

func TestKnife(t *testing.T) { // P22.5
	row, e := chains.Knife(over(1, 2))
	want(t, "Knife of 1/2", row, e, quad{balled(-2, -1, 0, 0), balled(4, 1, 0, 0), balled(4, 3, 0, 2), balled(6, 3, 2, 2)}.disks())
	for _, x := range fractions() {
		wantKnife(t, x)
	}
}

func TestHeight(t *testing.T) { // P22.5
	for _, x := range []struct {
		x    *big.Rat
		n    int
		want [2]api.Frac
	}{
		{rat(1, 2), 1, [2]api.Frac{over(1, 3), over(1, 6)}},
		{rat(1, 2), 0, [2]api.Frac{over(0, 1), over(1, 4)}},
		{rat(1, 2), -1, [2]api.Frac{over(-1, 3), over(1, 6)}},
		{rat(1, 2), 2, [2]api.Frac{over(2, 6), over(1, 12)}},
		{rat(1, 3), 0, [2]api.Frac{over(0, 1), over(1, 3)}},
		{rat(2, 3), 1, [2]api.Frac{over(2, 7), over(1, 7)}},
	} {
		height, radius, e := chains.Height(fraction(x.x), x.n)
		want(t, "Height", [2]api.Frac{height, radius}, e, x.want)
	}
	for _, x := range fractions() {
		for _, n := range numbers() {
			wantHeight(t, x, n)
		}
	}
}

// longFractions are above 0 and below 1, and up to as long as may be.
func longFractions() []*big.Rat {
	r := rand.New(rand.NewSource(2251))
	one := rat(1, 1)
	l := []*big.Rat{
		under(top()), minus(one, under(top())), quo(rat(2, 1), ofInt(top())), new(big.Rat).SetFrac(more(top(), -2), top()), new(big.Rat).SetFrac(more(top(), -4), more(top(), -1)),
		under(root()), under(more(root(), 1)), minus(one, under(root())), minus(one, under(more(root(), -1))), under(shared(root(), 2)), under(shared(root(), 4)), minus(one, under(shared(root(), 2))),
	}
	for n := 0; n < 24; n += 2 {
		p, q := full(r, 500+n), full(r, 501+n)
		l = append(l, new(big.Rat).SetFrac(p, q), minus(one, new(big.Rat).SetFrac(p, q)))
		p = full(r, 1+n)
		l = append(l, new(big.Rat).SetFrac(p, full(r, 1024)), new(big.Rat).SetFrac(p, full(r, 500+n)))
		q = full(r, 600)
		l = append(l, new(big.Rat).SetFrac(more(q, -2*int64(n)-2), q))
	}
	return l
}

func TestKnifeLong(t *testing.T) { // P22.5
	seen := tally{}
	for _, x := range longFractions() {
		if !upTo(x) {
			t.Fatal("a fraction is to fit")
		}
		wantKnife(t, x)
		f := knife(x)
		seen.fit(f.fits())
		for _, n := range []int{0, 1, -1, 2, 3, 100, -1000, api.MaxChain, -api.MaxChain} {
			wantHeight(t, x, n)
			d := f.at(n)
			high, wide := upTo(d.centre().im), upTo(d.radius())
			seen.when("the height alone", !wide && f.fits())
			seen.when("the row alone", wide && high && !f.fits())
			seen.when("the radius alone", high && !wide)
		}
	}
	seen.least(t, 6, "fits", "too big", "the height alone", "the row alone", "the radius alone")
}

// The radius of the disk 0 is (q - p) / (2 q).
func TestHeightAtTheBound(t *testing.T) { // P22.5
	even := more(top(), -1)
	for _, x := range []struct {
		p, q *big.Int
		want api.Errno
	}{
		{big.NewInt(1), top(), api.OK},
		{big.NewInt(2), top(), api.ErrBig},
		{more(top(), -2), top(), api.OK},
		{more(top(), -1), top(), api.ErrBig},
		{big.NewInt(1), even, api.ErrBig},
		{big.NewInt(2), shared(even, 2), api.OK},
		{more(even, -1), even, api.ErrBig},
		{big.NewInt(1), twos(8190), api.OK},
		{big.NewInt(1), twos(8191), api.ErrBig},
	} {
		f := new(big.Rat).SetFrac(x.p, x.q)
		_, _, e := chains.Height(fraction(f), 0)
		if e != x.want {
			t.Errorf("Height at the bound is %v, want %v", e, x.want)
		}
		wantHeight(t, f, 0)
	}
	// Of the disk n it is, for p being 1, (q - 1) / (2 (q + n n (q - 1)^2)).
	for _, x := range []struct {
		q    *big.Int
		want api.Errno
	}{{shared(root(), 2), api.OK}, {root(), api.ErrBig}} {
		f := under(x.q)
		row, e := chains.Knife(fraction(f))
		wantRow(t, "Knife at the bound", row, e, knife(f))
		_, _, e = chains.Height(fraction(f), 1)
		if e != x.want {
			t.Errorf("Height at the bound is %v, want %v", e, x.want)
		}
		wantHeight(t, f, 1)
	}
}

func TestKnifeRefuses(t *testing.T) { // P22.5
	wrong := append(wrongFracs(), over(0, 1), over(1, 1), over(2, 1), over(-1, 1), over(-1, 2), over(3, 2), fraction(ofInt(top())), fraction(opposite(under(top()))))
	wrong = append(wrong, fraction(new(big.Rat).SetFrac(top(), more(top(), -1))), fraction(opposite(ofInt(top()))))
	for _, x := range wrong {
		row, e := chains.Knife(x)
		wantNone(t, "Knife of a wrong fraction", row, e, api.ErrArg)
		for _, n := range append(wrongNumbers(), numbers()...) {
			height, radius, e := chains.Height(x, n)
			wantNone(t, "Height of a wrong fraction", [2]api.Frac{height, radius}, e, api.ErrArg)
		}
	}
	for _, x := range append(longFractions(), rat(1, 2)) {
		for _, n := range wrongNumbers() {
			height, radius, e := chains.Height(fraction(x), n)
			wantNone(t, "Height at a wrong number", [2]api.Frac{height, radius}, e, api.ErrArg)
		}
	}
}
