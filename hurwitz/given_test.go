package hurwitz_test

import (
	"math"
	"math/big"
	"math/rand"
	"strings"
	"testing"

	"tracery/api"
)

// wrongFracs are fractions that may not be.
func wrongFracs() []api.Frac {
	one := whole(big.NewInt(1))
	small := func(n int64) api.Whole { return whole(big.NewInt(n)) }
	return []api.Frac{
		{},
		{Num: one},
		{Den: one, Num: api.Whole{Neg: true}},
		{Num: small(0), Den: small(2)},
		{Num: one, Den: small(-2)},
		{Num: small(-1), Den: small(-1)},
		{Num: small(6), Den: small(4)},
		{Num: small(2), Den: small(4)},
		{Num: small(-3), Den: small(3)},
		{Num: whole(top()), Den: whole(top())},
		{Num: whole(past()), Den: one},
		{Num: whole(negInt(past())), Den: one},
		{Num: one, Den: whole(past())},
		{Num: api.Whole{Mag: "\x00\x01"}, Den: one},
		{Num: api.Whole{Mag: "\x00"}, Den: one},
		{Num: one, Den: api.Whole{Mag: "\x00\x02"}},
		{Num: one, Den: api.Whole{Mag: "\x00\x01"}},
		{Num: one, Den: api.Whole{Mag: "\x00"}},
		{Num: one, Den: api.Whole{Neg: true}},
		{Num: one, Den: api.Whole{Neg: true, Mag: "\x01"}},
		{Num: api.Whole{Mag: strings.Repeat("\x7f", api.MaxWide+1)}, Den: one},
		{Num: one, Den: api.Whole{Mag: strings.Repeat("\x7f", api.MaxWide+1)}},
	}
}

// wrong are numbers that may not be.
func wrong() []api.Gauss {
	var l []api.Gauss
	for _, x := range wrongFracs() {
		for _, y := range []api.Frac{fraction(rat(0, 1)), fraction(rat(-3, 1)), fraction(rat(1, 2))} {
			l = append(l, api.Gauss{Re: x, Im: y}, api.Gauss{Re: y, Im: x})
		}
		l = append(l, api.Gauss{Re: x, Im: x})
	}
	return l
}

// broken are numbers that may be, but are not whole.
func broken() []num {
	tiny := inverse(top())
	return []num{
		frac(1, 2, 0, 1), frac(0, 1, 1, 2), frac(1, 2, 1, 2), frac(-1, 2, 3, 1), frac(5, 1, -7, 3), frac(-7, 3, 2, 3), frac(1, 256, 0, 1), frac(0, 1, -1, 255),
		{tiny, rat(0, 1)}, {rat(0, 1), tiny}, {ofInt(top()), tiny}, {opposite(tiny), ofInt(top())}, {ratio(top(), big.NewInt(2)), rat(1, 1)},
	}
}

// notWhole are all that Whole tells to be none.
func notWhole() []api.Gauss {
	l := wrong()
	for _, z := range broken() {
		l = append(l, z.gauss())
	}
	return l
}

// full makes whole numbers of just so many bytes, odd ones.
func full(r *rand.Rand, count int) *big.Int {
	b := make([]byte, count)
	r.Read(b)
	b[0], b[count-1] = b[0]|0x80, b[count-1]|1
	return new(big.Int).SetBytes(b)
}

// some makes a number of at most so many bytes, of either sign, now and then 0.
func some(r *rand.Rand, most int) *big.Int {
	n := full(r, 1+r.Intn(most))
	n.Rsh(n, uint(r.Intn(8)))
	switch r.Intn(9) {
	case 0:
		return big.NewInt(0)
	case 1, 2, 3, 4:
		return negInt(n)
	}
	return n
}

func someCell(r *rand.Rand, most int) cell { return cell{some(r, most), some(r, most)} }

func fullCell(r *rand.Rand, count int) cell {
	return cell{full(r, count), full(r, count)}.turned(r.Intn(4))
}

// someNum makes exact numbers of all kinds: with Dens that are the same, that
// have nothing in common, with one whole part.
func someNum(r *rand.Rand, most int) num {
	over, under := someCell(r, most), full(r, 1+r.Intn(most))
	z := num{ratio(over.re, under), ratio(over.im, under)}
	switch r.Intn(6) {
	case 0:
		z.im = ratio(over.im, full(r, 1+r.Intn(most)))
	case 1:
		z.re = ofInt(over.re)
	case 2:
		z.im = ofInt(over.im)
	case 3:
		return over.over(cell{under, some(r, most)})
	}
	return z
}

// wholes are whole numbers of all kinds.
func wholes() []cell {
	r := rand.New(rand.NewSource(2400))
	var l []cell
	for re := int64(-3); re <= 3; re++ {
		for im := int64(-3); im <= 3; im++ {
			l = append(l, is(re, im))
		}
	}
	l = append(l, is(5, 3), is(6, 0), is(4, 2), is(-7, 4), is(12, -5), is(255, 256), is(-256, 0), is(0, 65536), is(math.MaxInt64, math.MinInt64), is(math.MinInt64, 1))
	for _, z := range []cell{
		{top(), big.NewInt(0)}, {top(), big.NewInt(1)}, {top(), top()}, {top(), more(top(), -1)}, {twos(8*api.MaxWhole - 1), big.NewInt(3)}, {shared(top(), 2), more(shared(top(), 2), 1)},
		fullCell(r, api.MaxWhole), fullCell(r, api.MaxWhole), fullCell(r, 500),
	} {
		for k := range 4 {
			l = append(l, z.turned(k))
		}
	}
	for n := range 20 {
		l = append(l, someCell(r, 1+n*n))
	}
	return l
}

// nums are exact numbers of all kinds, but not so long that math/big's own
// fractions take their time.
func nums() []num {
	r := rand.New(rand.NewSource(2401))
	l := broken()[:8]
	for d := int64(1); d <= 6; d++ {
		for a := -2 * d; a <= 2*d; a++ {
			l = append(l, frac(a, d, 0, 1), frac(0, 1, a, d), frac(a, d, 1, 2), frac(3, 2, a, d), frac(a, d, 2-a, d), frac(a, d, a+1, 3))
		}
	}
	for n := range 120 {
		l = append(l, someNum(r, 1+n/6))
	}
	for _, z := range wholes() {
		l = append(l, z.num())
	}
	return append(l, num{inverse(top()), rat(0, 1)}, num{rat(0, 1), inverse(top())}, num{ofInt(top()), inverse(top())}, num{inverse(top()), rat(1, 2)}, num{inverse(top()), inverse(more(top(), -1))}, num{inverse(top()), inverse(top())}.opposite())
}

// longs are exact numbers as long as may be, or nearly so, with many quotients.
func longs() []num {
	r := rand.New(rand.NewSource(2402))
	count := api.MaxWhole
	one := full(r, count)
	return []num{
		{ratio(full(r, count), full(r, count)), rat(0, 1)},
		{rat(0, 1), opposite(ratio(full(r, 3), full(r, count)))},
		{ratio(full(r, count), one), opposite(ratio(full(r, count), one))},
		{ratio(full(r, count), full(r, count)), ratio(full(r, count), full(r, count))},
		{ratio(full(r, count), big.NewInt(7)), ratio(full(r, 5), full(r, 5))},
		fullCell(r, 500).over(fullCell(r, 500)),
		fullCell(r, 512).over(fullCell(r, 300)),
	}
}

func TestGiven(t *testing.T) { // what the tests lean on
	for _, z := range append(nums(), longs()...) {
		if !z.fits() {
			t.Errorf("%s is too big", brief(z))
		}
	}
	for k := range 4 {
		if z := is(3, 1).turned(k); z.turned(z.turns()).gauss() != is(3, 1).gauss() {
			t.Errorf("turned %d times: %s", k, brief(z))
		}
	}
	if q, rest, ties := is(5, 3).div(is(2, 0)); !q.same(is(2, 2)) || !rest.same(is(1, -1)) || ties != 2 {
		t.Errorf("5 + 3 i by 2 is %s, rest %s, %d", brief(q), brief(rest), ties)
	}
	d, u, v, _ := combined(is(3, 4), is(5, 0))
	if !d.same(is(2, 1)) || !u.times(is(3, 4)).plus(v.times(is(5, 0))).same(d) {
		t.Errorf("combined are %s, %s, %s", brief(d), brief(u), brief(v))
	}
	for _, z := range nums()[:150] {
		wantList(t, "quotients by rests", gausses(longQuotients(z)), gausses(z.quotients()))
	}
}
