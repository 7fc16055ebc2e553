package ford_test

import (
	"math/big"
	"math/rand"
	"testing"

	"tracery/api"
	"tracery/ford"
)

func wantOver(t *testing.T, x *big.Rat) {
	t.Helper()
	d, e := ford.Over(fraction(x))
	if y := stood(x); y.fits() {
		want(t, "Over of "+brief(fraction(x)), d, e, y.disk())
	} else {
		wantNone(t, "Over of "+brief(fraction(x)), d, e, api.ErrBig)
	}
}

func TestOver(t *testing.T) { // P23.1
	seen := tally{}
	for _, x := range given() {
		wantOver(t, x)
		seen.fit(stood(x).fits())
	}
	seen.least(t, 20, "fits", "too big")
	for p := int64(-20); p <= 20; p++ {
		for q := int64(1); q <= 20; q++ {
			wantOver(t, rat(p, q))
		}
	}
	r := rand.New(rand.NewSource(2310))
	for range 300 {
		wantOver(t, odd(r, 511))
	}
}

func TestOverExamples(t *testing.T) { // P23.1
	d, e := ford.Over(of(1, 2))
	want(t, "Over of 1/2", d, e, balled(8, 4, 1, 2).disk())
	d, e = ford.Over(of(0, 1))
	want(t, "Over of 0", d, e, balled(2, 0, 1, 0).disk())
	d, e = ford.Over(of(-1, 3))
	want(t, "Over of -1/3", d, e, balled(18, -6, 1, 2).disk())
	want(t, "Top", ford.Top(), api.OK, balled(0, 0, 1, 2).disk())
}

// The squares are just as long as may be, or one byte longer.
func TestOverAtTheBound(t *testing.T) { // P23.1
	w := widest()
	for by := int64(-2); by <= 2; by++ {
		n := more(w, by)
		for _, x := range []*big.Rat{ofInt(n), inverse(n), opposite(ofInt(n)), opposite(inverse(n)), ratio(n, big.NewInt(7)), ratio(big.NewInt(-5), n), ratio(n, more(n, -1)), ratio(more(n, -1), n)} {
			wantOver(t, x)
			_, e := ford.Over(fraction(x))
			if fits := x.Num().CmpAbs(w) <= 0 && x.Denom().Cmp(w) <= 0; fits != (e == api.OK) {
				t.Errorf("Over of %s is %v", brief(fraction(x)), e)
			}
		}
	}
}

func TestOverRefuses(t *testing.T) { // P23.1
	for _, x := range wrongFracs() {
		d, e := ford.Over(x)
		wantNone(t, "Over", d, e, api.ErrArg)
	}
}

func TestUnder(t *testing.T) { // P23.1
	for _, x := range given() {
		if y := stood(x); y.fits() {
			z, e := ford.Under(y.disk())
			want(t, "Under", z, e, fraction(x))
		}
	}
	x, e := ford.Under(balled(8, 4, 1, 2).disk())
	want(t, "Under of 8, 4 + i, 2", x, e, of(1, 2))
}

// strange are disks that are over no fraction.
func strange() []ball {
	r := rand.New(rand.NewSource(2311))
	tiny, one, none := inverse(twos(4000)), rat(1, 1), rat(0, 1)
	l := []ball{
		balled(0, 0, 1, 2), balled(0, 0, -1, -2), balled(0, 0, -1, 0), balled(0, 0, 1, 0), balled(0, 1, 0, 0), balled(0, -1, 0, 5), balled(0, 0, 1, 4), {none, rat(3, 5), rat(4, 5), rat(7, 3)}, {none, none, one, plus(rat(2, 1), tiny)},
		balled(1, 0, 0, -1), balled(-1, 0, 0, 1), balled(1, 0, 1, 0), balled(3, 0, 1, 0), balled(4, 0, 1, 0), balled(1, 1, 1, 1), balled(8, 0, 1, 0), balled(8, 8, 1, 8), balled(18, 18, 1, 18), balled(32, 16, 1, 8), balled(2, 0, -1, 0), balled(8, 4, -1, 2), balled(8, -4, -1, 2),
		{rat(8, 1), rat(2, 1), one, rat(1, 2)}, {rat(2, 1), one, one, rat(1, 2)}, {rat(9, 2), rat(3, 1), one, rat(2, 1)}, {rat(9, 2), none, one, none}, {rat(1, 2), none, one, none}, {rat(2, 9), rat(2, 3), one, rat(2, 1)},
		about(none, none, ofInt(top())), about(none, none, inverse(top())), {ofInt(more(top(), -1)), none, one, none}, {ofInt(top()), rat(1, 1), none, none}, {inverse(top()), none, one, none}, {inverse(top()), one, none, none},
		{inverse(top()), opposite(one), none, none},
	}
	for range 5 {
		re, im := unit(full(r, 511), full(r, 500))
		bend := fullRat(r, api.MaxWhole, api.MaxWhole)
		l = append(l, ball{bend, re, im, none}, ball{opposite(bend), re, im, none}, ball{none, re, im, bend})
	}
	for _, x := range given() {
		q := ofInt(x.Denom())
		radius := quo(rat(1, 2), times(q, q))
		l = append(l,
			stood(x).out(), about(x, opposite(radius), radius),
			about(plus(x, tiny), radius, radius), about(x, plus(radius, tiny), radius), about(x, radius, plus(radius, tiny)), about(x, plus(radius, tiny), plus(radius, tiny)),
			about(x, times(radius, rat(2, 1)), times(radius, rat(2, 1))), about(x, times(radius, rat(1, 4)), times(radius, rat(1, 4))),
			// What has the Bend of one over a fraction, and stands elsewhere.
			about(plus(x, radius), radius, radius), about(times(x, rat(1, 2)), radius, radius), about(plus(x, quo(rat(1, 3), q)), radius, radius),
		)
	}
	for range 60 {
		l = append(l, about(odd(r, 9), odd(r, 9), fullRat(r, 9, 8)), about(odd(r, 90), odd(r, 90), fullRat(r, 70, 80)))
	}
	return l
}

// unit answers the parts of a complex number of the magnitude 1: the square of
// a + b i over its norm.
func unit(a, b *big.Int) (re, im *big.Rat) {
	aa, bb, ab := timesInt(a, a), timesInt(b, b), timesInt(a, b)
	return ratio(lessInt(aa, bb), plusInt(aa, bb)), ratio(plusInt(ab, ab), plusInt(aa, bb))
}

// standing tells by the chapter's words whether a disk is over a fraction: its
// centre's real part alone says over which one.
func standing(x ball) bool {
	if x.bend.Sign() == 0 {
		return false
	}
	y := stood(quo(x.re, x.bend))
	return x.bend.Cmp(y.bend) == 0 && x.re.Cmp(y.re) == 0 && x.im.Cmp(y.im) == 0 && x.co.Cmp(y.co) == 0
}

func TestUnderNone(t *testing.T) { // P23.1
	seen := tally{}
	for _, x := range strange() {
		if !x.fits() || standing(x) {
			continue
		}
		if !x.may() {
			t.Fatalf("%s is no disk", brief(x.disk()))
		}
		y, e := ford.Under(x.disk())
		wantNone(t, "Under of "+brief(x.disk()), y, e, api.ErrNone)
		seen.when("half planes", x.bend.Sign() == 0)
		seen.when("inside out", x.bend.Sign() < 0)
		seen.when("others", x.bend.Sign() > 0)
		seen.when("long centre", x.bend.Sign() != 0 && !upTo(quo(x.re, x.bend)))
		seen.when("too big a disk there", x.bend.Sign() != 0 && !stood(quo(x.re, x.bend)).fits())
	}
	seen.least(t, 9, "half planes", "inside out", "others", "too big a disk there")
	seen.least(t, 1, "long centre")
	x, e := ford.Under(ford.Top())
	wantNone(t, "Under of Top", x, e, api.ErrNone)
}

func TestUnderRefuses(t *testing.T) { // P23.1
	for _, d := range wrongDisks() {
		x, e := ford.Under(d)
		wantNone(t, "Under", x, e, api.ErrArg)
	}
}
