package plane_test

import (
	"math/big"
	"math/rand"
	"testing"

	"tracery/api"
	"tracery/plane"
)

// angle is what Angle tells.
type angle struct {
	cos2  api.Frac
	sharp int
}

func wantBetween(t *testing.T, seen tally, p api.Picture, z, x, w num) {
	t.Helper()
	wanted := betweenOf(p, z, x, w)
	is, e := plane.Between(p, z.gauss(), x.gauss(), w.gauss())
	want(t, "Between of "+brief(z)+", "+brief(x)+", "+brief(w), is, e, wanted)
	seen.when("is", wanted)
	seen.when("is not", !wanted)
	seen.when("no way", z.same(w))
	if z.same(w) {
		return
	}
	on := lineOf(p, z, w).value(x).Sign() == 0
	seen.when("on the line, but beyond", on && !wanted)
	seen.when("off the line", !on)
	seen.when("within", wanted && !x.same(z) && !x.same(w))
}

func TestBetween(t *testing.T) { // P25.7
	for _, p := range pictures() {
		seen := tally{}
		near := grains(p)
		for n, z := range near {
			for m, w := range near {
				for k, x := range near {
					if (n*3+m*5+k)%3 == 0 || k == n || k == m {
						wantBetween(t, seen, p, z, x, w)
					}
				}
			}
		}
		seen.least(t, 40, "is", "is not", "no way", "on the line, but beyond", "off the line", "within")
	}
}

// threes makes three points of one straight line, in their order: a i, b i, c i
// in Upper, moved elsewhere; in Round what Chart makes of such.
func threes(r *rand.Rand, p api.Picture, most int) [3]num {
	heights := []*big.Rat{ratio(some(r, most), some(r, most)), ratio(some(r, most), some(r, most)), ratio(some(r, most), some(r, most))}
	for k := range 3 { // the least one first
		for l := range k {
			if heights[k].Cmp(heights[l]) < 0 {
				heights[k], heights[l] = heights[l], heights[k]
			}
		}
	}
	at, by := real(odd(r, most)), ratio(some(r, most), some(r, most))
	var out [3]num
	for k, y := range heights {
		z := num{none(), y}
		if most%2 == 0 { // elsewhere by -1 / (z - at), and by a factor
			z = in(-1, 0).over(z.minus(at)).scaled(by)
		}
		out[k] = z
		if p == api.Round {
			out[k] = toRound().at(z)
		}
	}
	return out
}

func TestBetweenOnALine(t *testing.T) { // P25.7
	for _, p := range pictures() {
		r := rand.New(rand.NewSource(2640 + int64(p)))
		seen := tally{}
		for n := range 150 {
			l := threes(r, p, 1+n/10)
			for _, order := range [][3]int{{0, 1, 2}, {2, 1, 0}, {1, 0, 2}, {0, 2, 1}, {1, 2, 0}, {2, 0, 1}, {0, 0, 1}, {0, 1, 1}, {0, 1, 0}, {1, 1, 1}, {2, 2, 0}} {
				z, x, w := l[order[0]], l[order[1]], l[order[2]]
				if !z.fits() || !x.fits() || !w.fits() {
					continue
				}
				wantBetween(t, seen, p, z, x, w)
				// Just beside the line.
				aside := num{x.re, plus(x.im, under(twos(uint(20+n))))}
				if within(p, aside) {
					wantBetween(t, seen, p, z, aside, w)
				}
				aside = num{minus(x.re, under(twos(uint(20+n)))), x.im}
				if within(p, aside) {
					wantBetween(t, seen, p, z, aside, w)
				}
			}
		}
		seen.least(t, 100, "is", "is not", "no way", "on the line, but beyond", "off the line", "within")
	}
}

// P25.7: there is no ErrBig.
func TestBetweenLong(t *testing.T) {
	for _, p := range pictures() {
		is := func(z, x, w num, wanted bool) {
			t.Helper()
			got, e := plane.Between(p, z.gauss(), x.gauss(), w.gauss())
			want(t, "Between of "+brief(z)+", "+brief(x)+", "+brief(w), got, e, wanted)
		}
		far := longs(p)
		for n, z := range far {
			w := far[(n+1)%len(far)]
			is(z, z, w, true)
			is(z, w, w, true)
			is(z, w, z, false)
			is(z, z, z, true)
			if x := far[(n*5+2)%len(far)]; n > 3 {
				is(z, x, w, betweenOf(p, z, x, w))
			}
		}
		// One above the other, or on one ray, as near and as far as may be.
		r := rand.New(rand.NewSource(2650 + int64(p)))
		x := ratio(full(r, api.MaxWhole-1), full(r, api.MaxWhole))
		rising := []*big.Rat{under(top()), under(more(top(), -1)), x, one(), ratio(top(), more(top(), -1)), ofInt(more(top(), -1)), ofInt(top())}
		if p == api.Round {
			next := ratio(more(top(), -1), top())
			rising = []*big.Rat{opposite(next), opposite(x), under(top()), x, ratio(more(top(), -2), more(top(), -1)), next}
		}
		for from := range rising {
			for at := range rising {
				for to := range rising {
					if (from+at*2+to*5)%3 == 0 && at != to {
						continue
					}
					within := from <= at && at <= to || to <= at && at <= from
					if p == api.Upper {
						is(num{x, rising[from]}, num{x, rising[at]}, num{x, rising[to]}, within)
						is(num{x, rising[from]}, num{opposite(x), rising[at]}, num{x, rising[to]}, false)
					} else {
						is(num{none(), rising[from]}, num{none(), rising[at]}, num{none(), rising[to]}, within)
						is(real(rising[from]), real(rising[at]), real(rising[to]), within)
						is(real(rising[from]), num{rising[at], under(top())}, real(rising[to]), false)
					}
				}
			}
		}
	}
}

func wantAngle(t *testing.T, seen tally, p api.Picture, at, z, w num) {
	t.Helper()
	what := "Angle at " + brief(at) + " between " + brief(z) + " and " + brief(w)
	cos2, sharp, e := plane.Angle(p, at.gauss(), z.gauss(), w.gauss())
	if at.same(z) || at.same(w) {
		seen["same"]++
		wantNone(t, what, angle{cos2, sharp}, e, api.ErrSame)
		return
	}
	square, sign := angleOf(p, at, z, w)
	wantFit(t, seen, what, angle{cos2, sharp}, e, angle{fraction(square), sign}, upTo(square))
	if !upTo(square) {
		return
	}
	seen.when([]string{"blunt", "right", "sharp"}[sign+1], true)
	seen.when("one way", square.Cmp(one()) == 0 && sign > 0)
	seen.when("two ways", square.Cmp(one()) == 0 && sign < 0)
	seen.when("both the same", z.same(w))
}

func TestAngle(t *testing.T) { // P25.7
	for _, p := range pictures() {
		seen := tally{}
		near := grains(p)
		for n, z := range near {
			for m, w := range near {
				for k, x := range near {
					if (n*3+m*5+k)%11 == 0 || n == m && k%3 == 0 {
						wantAngle(t, seen, p, z, x, w)
						wantAngle(t, seen, p, x, z, w)
					}
				}
			}
		}
		r := rand.New(rand.NewSource(2660 + int64(p)))
		for n := range 60 {
			l := threes(r, p, 1+n/10)
			for _, order := range [][3]int{{0, 1, 2}, {1, 0, 2}, {2, 1, 0}, {1, 1, 2}, {0, 1, 1}} {
				x, y, z := l[order[0]], l[order[1]], l[order[2]]
				if x.fits() && y.fits() && z.fits() {
					wantAngle(t, seen, p, x, y, z)
				}
			}
			wantAngle(t, seen, p, oddPoint(r, p, 1+n/8), oddPoint(r, p, 1+n/8), oddPoint(r, p, 1+n/8))
			wantAngle(t, seen, p, longPoint(r, p, 10+n), longPoint(r, p, 10+n), longPoint(r, p, 10+n))
			wantAngle(t, seen, p, near[n%len(near)], near[(n+5)%len(near)], longPoint(r, p, 20+n*8))
		}
		seen.least(t, 30, "fits", "too big", "same", "sharp", "blunt", "one way", "two ways", "both the same")
		seen.least(t, 20, "right")
	}
}

func TestAngleLong(t *testing.T) { // P25.7
	for _, p := range pictures() {
		seen := tally{}
		far, near := longs(p), grains(p)
		for n, z := range far {
			w := far[(n+1)%len(far)]
			wantAngle(t, seen, p, z, w, z)
			wantAngle(t, seen, p, z, w, near[n])
			if n > 3 {
				wantAngle(t, seen, p, z, w, w) // 1, however long
				wantAngle(t, seen, p, near[n], z, near[n+1])
			}
		}
		seen.least(t, 5, "fits", "too big", "same", "both the same")
	}
}

// P25.7: at 0 it is Euclid's angle: of 1 / n and 1 / n + i / m the cosine's
// square is m m / (m m + n n).
func TestAngleAtTheBound(t *testing.T) {
	seen := tally{}
	for _, add := range []int64{-3, -2, -1, 0, 1, 2} {
		n := more(half(), add)
		for _, x := range []struct{ z, w num }{
			{parts(1, 2, 0, 1), num{under(n), rat(1, 2)}}, {parts(1, 2, 0, 1), num{rat(1, 2), under(n)}}, {parts(0, 1, -1, 2), num{rat(1, 2), under(n)}}, {parts(-1, 2, 0, 1), num{under(n), under(half())}},
			{parts(1, 3, 1, 2), num{under(n), rat(1, 2)}},
		} {
			wantAngle(t, seen, api.Round, in(0, 0), x.z, x.w)
			wantAngle(t, seen, api.Round, in(0, 0), x.w, x.z)
		}
		wantAngle(t, seen, api.Upper, in(0, 1), num{none(), rat(2, 1)}, num{under(n), one()})
		wantAngle(t, seen, api.Upper, in(0, 1), num{none(), ofInt(n)}, num{rat(-3, 1), one()})
	}
	seen.least(t, 5, "fits", "too big", "sharp", "blunt")
}

func TestAngleByHand(t *testing.T) { // P25.7
	for _, x := range []struct {
		p        api.Picture
		at, z, w num
		cos2     *big.Rat
		sharp    int
	}{
		{api.Upper, in(0, 1), in(0, 2), in(1, 1), rat(1, 5), 1}, {api.Upper, in(0, 1), in(0, 2), parts(3, 5, 4, 5), none(), 0}, {api.Upper, in(0, 1), in(0, 2), in(0, 3), one(), 1}, {api.Upper, in(0, 2), in(0, 1), in(0, 3), one(), -1},
		{api.Upper, in(0, 1), parts(0, 1, 1, 2), in(1, 1), rat(1, 5), -1}, {api.Upper, in(0, 1), in(1, 1), in(1, 1), one(), 1},
		{api.Round, in(0, 0), parts(1, 2, 0, 1), parts(0, 1, 1, 3), none(), 0}, {api.Round, in(0, 0), parts(1, 2, 0, 1), parts(1, 2, 1, 2), rat(1, 2), 1}, {api.Round, in(0, 0), parts(1, 2, 0, 1), parts(-1, 2, 1, 2), rat(1, 2), -1},
		{api.Round, in(0, 0), parts(1, 2, 0, 1), parts(-1, 3, 0, 1), one(), -1}, {api.Round, in(0, 0), parts(1, 2, 0, 1), parts(1, 3, 0, 1), one(), 1}, {api.Round, in(0, 0), parts(1, 2, 0, 1), parts(3, 10, -4, 10), rat(9, 25), 1},
	} {
		for range 2 {
			cos2, sharp, e := plane.Angle(x.p, x.at.gauss(), x.z.gauss(), x.w.gauss())
			want(t, "Angle", angle{cos2, sharp}, e, angle{fraction(x.cos2), x.sharp})
			x.z, x.w = x.w, x.z
		}
	}
}
