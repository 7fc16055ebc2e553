package ford_test

import (
	"math"
	"math/big"
	"math/rand"
	"strings"
	"testing"

	"tracery/api"
)

// wrongFracs are fractions that may not be.
func wrongFracs() []api.Frac {
	one := small(1)
	return []api.Frac{
		{},
		{Num: one},
		{Den: one, Num: api.Whole{Neg: true}},
		{Num: small(0), Den: small(2)},
		{Num: one, Den: small(-2)},
		{Num: small(-1), Den: small(-1)},
		{Num: small(6), Den: small(4)},
		{Num: small(2), Den: small(4)},
		{Num: small(-3), Den: small(3)},
		{Num: whole(top()), Den: whole(top())},
		{Num: whole(past()), Den: one},
		{Num: whole(new(big.Int).Neg(past())), Den: one},
		{Num: one, Den: whole(past())},
		{Num: api.Whole{Mag: "\x00\x01"}, Den: one},
		{Num: one, Den: api.Whole{Mag: "\x00\x02"}},
		{Num: one, Den: api.Whole{Mag: "\x00"}},
		{Num: one, Den: api.Whole{Neg: true}},
		{Num: api.Whole{Mag: strings.Repeat("\x7f", api.MaxWide+1)}, Den: one},
		{Num: one, Den: api.Whole{Mag: strings.Repeat("\x7f", api.MaxWide+1)}},
	}
}

// wrongDisks are disks that may not be: of which |Mid|^2 - Bend Co is not 1, and
// of wrong numbers.
func wrongDisks() []api.Disk {
	tiny := inverse(top())
	l := []api.Disk{{}}
	for _, x := range []ball{
		balled(0, 0, 0, 0), balled(1, 0, 0, 0), balled(1, 0, 0, 1), balled(0, 0, 0, -1), balled(0, 2, 0, 0), balled(0, 1, 1, 0),
		balled(8, 4, 1, 3), balled(8, 4, 2, 2), balled(8, 3, 1, 2), balled(7, 4, 1, 2), balled(8, 4, 0, 2), balled(2, 0, 1, 1), balled(0, 0, 2, 2),
		{rat(8, 1), rat(4, 1), rat(1, 1), plus(rat(2, 1), tiny)}, {rat(8, 1), rat(4, 1), minus(rat(1, 1), tiny), rat(2, 1)},
	} {
		l = append(l, x.disk())
	}
	for _, x := range wrongFracs() {
		half := stood(rat(1, 2)).disk()
		bend, re, im, co, flat := half, half, half, half, balled(0, 0, 1, 2).disk()
		bend.Bend, re.Mid.Re, im.Mid.Im, co.Co, flat.Bend = x, x, x, x, x
		l = append(l, bend, re, im, co, flat)
	}
	return l
}

// wrongCounts are not from 1 to MaxFord.
func wrongCounts() []int {
	return []int{0, -1, -2, -api.MaxFord, api.MaxFord + 1, 2 * api.MaxFord, 1 << 31, 1 << 32, 1<<32 + 5, -1 << 32, -1<<32 + 5, math.MaxInt, math.MaxInt - 1, math.MinInt, math.MinInt + 1}
}

// full makes whole numbers of just so many bytes, odd ones.
func full(r *rand.Rand, count int) *big.Int {
	b := make([]byte, count)
	r.Read(b)
	b[0], b[count-1] = b[0]|0x80, b[count-1]|1
	return new(big.Int).SetBytes(b)
}

func fullRat(r *rand.Rand, above, below int) *big.Rat { return ratio(full(r, above), full(r, below)) }

// odd makes fractions of at most so many bytes above the line and below.
func odd(r *rand.Rand, most int) *big.Rat {
	x := ratio(full(r, 1+r.Intn(most)), full(r, 1+r.Intn(most)))
	switch r.Intn(4) {
	case 0:
		return ofInt(floor(x))
	case 1:
		return opposite(x)
	}
	return x
}

// short makes fractions with a Den of at most n.
func short(r *rand.Rand, n int64) *big.Rat { return rat(r.Int63n(8*n+9)-4*n-4, 1+r.Int63n(n)) }

// longs are fractions as long as may be, or nearly so.
func longs() []*big.Rat {
	r := rand.New(rand.NewSource(2300))
	w, count := widest(), api.MaxWhole
	l := []*big.Rat{
		ofInt(top()), inverse(top()), ratio(top(), more(top(), -1)), ratio(more(top(), -1), top()), ratio(top(), big.NewInt(2)), ratio(big.NewInt(2), top()),
		ofInt(w), ofInt(more(w, 1)), inverse(w), inverse(more(w, 1)), ratio(w, more(w, 1)), ratio(more(w, -1), w),
		fullRat(r, count, count), fullRat(r, count, count), fullRat(r, count, 3), fullRat(r, 3, count), fullRat(r, 500, 500), fullRat(r, 512, 511), fullRat(r, 511, 512), ofInt(full(r, 500)), fullRat(r, 500, 1),
		golden(count), new(big.Rat).Inv(golden(count)), golden(511),
	}
	for _, x := range l {
		l = append(l, opposite(x))
	}
	return l
}

// golden is the fraction of two neighbours of Fibonacci's row that is the last
// one with at most so many bytes: all its quotients but the last one are 1.
func golden(count int) *big.Rat {
	a, b := big.NewInt(1), big.NewInt(1)
	for {
		c := plusInt(a, b)
		if len(c.Bytes()) > count {
			return ratio(b, a)
		}
		a, b = b, c
	}
}

// given are fractions of all kinds.
func given() []*big.Rat {
	r := rand.New(rand.NewSource(2301))
	l := []*big.Rat{
		rat(0, 1), rat(1, 1), rat(-1, 1), rat(2, 1), rat(-2, 1), rat(7, 1), rat(1, 2), rat(-1, 2), rat(1, 3), rat(2, 3), rat(3, 5), rat(3, 4), rat(-3, 4), rat(7, 5), rat(3, 8), rat(-13, 8), rat(100, 1), rat(1, 100), rat(255, 256), rat(256, 255), rat(65535, 65536),
		rat(math.MaxInt64, 1), rat(1, math.MaxInt64), rat(math.MinInt64, 1), rat(math.MinInt64, math.MaxInt64),
	}
	for n := range 40 {
		l = append(l, odd(r, 1+n%12), short(r, int64(1+n)))
	}
	return append(l, longs()...)
}

// twins answers a neighbour of x that is not long, if x is not, on either side:
// of its own quotients but the last one, and that beside it.
func twins(x *big.Rat) []*big.Rat {
	p, q := x.Num(), x.Denom()
	s := new(big.Int).ModInverse(p, q)
	if q.Cmp(big.NewInt(1)) == 0 {
		return []*big.Rat{ofInt(more(p, 1)), ofInt(more(p, -1))}
	}
	lower := ratio(quoInt(more(timesInt(p, s), -1), q), s)
	return []*big.Rat{lower, ratio(lessInt(p, lower.Num()), lessInt(q, s))}
}

func TestGiven(t *testing.T) { // what the tests lean on
	for _, x := range given() {
		if !upTo(x) {
			t.Errorf("%s is too big", brief(fraction(x)))
		}
		for _, y := range twins(x) {
			if !neighbours(x, y) || x.Cmp(y) == 0 {
				t.Errorf("%s and %s are to be neighbours", brief(fraction(x)), brief(fraction(y)))
			}
		}
		if y := stood(x); !y.fits() == y.may() {
			t.Errorf("over %s there is no disk", brief(fraction(x)))
		}
	}
	if x := stood(rat(3, 5)); x.disk() != balled(50, 30, 1, 18).disk() {
		t.Errorf("over 3/5 there is %s", brief(x.disk()))
	}
	if !upTo(ofInt(timesInt(big.NewInt(2), timesInt(widest(), widest())))) || stood(ofInt(more(widest(), 1))).fits() {
		t.Error("widest is not the greatest one")
	}
	if l := quotients(golden(9)); len(l) < 90 || l[len(l)-1].Int64() != 2 || l[0].Int64() != 1 {
		t.Errorf("golden's quotients are %v", l)
	}
	if x := made(0, 1, 1, 2); x.Cmp(rat(3, 5)) != 0 {
		t.Errorf("the quotients 0, 1, 1, 2 make %v", x)
	}
}
