package nets_test

import (
	"math/big"
	"math/rand"
	"testing"

	"tracery/api"
	"tracery/nets"
)

// wantCorner goes by the chapter's words: ErrArg is tested elsewhere.
func wantCorner(t *testing.T, seen tally, p, q, s spot, k num) {
	t.Helper()
	if !p.fits() || !q.fits() || !s.fits() || !k.fits() {
		return
	}
	got, e := nets.Corner(p.point(), q.point(), s.point(), k.gauss())
	if !unlike(p, q, s) {
		seen["the same"]++
		wantNone(t, "Corner of points that are the same", got, e, api.ErrNet)
		return
	}
	r := corner(p, q, s, k)
	switch {
	case !r.fits():
		seen["too big"]++
		wantNone(t, "Corner that is too big", got, e, api.ErrBig)
	case !(four{p, q, r, s}).fits(k):
		t.Fatalf("%s does not fit", brief(r.point()))
	default:
		seen["told"]++
		if r.inf {
			seen["infinity"]++
		}
		if p.inf || q.inf || s.inf {
			seen["of infinity"]++
		}
		want(t, "Corner", got, e, r.point())
	}
}

func TestCorner(t *testing.T) { // P27.1
	seen := tally{}
	pool := []spot{far(), on(0, 0), on(1, 0), on(0, 1), on(1, 1), on(2, 0), at(parts(1, 2, -3, 2)), on(-1, 0)}
	ratios := []num{in(-1, 0), in(2, 0), parts(1, 2, 0, 1), in(0, 1), in(1, 1), in(1, -1), parts(-3, 7, 2, 5), in(-2, 0), in(0, -3)}
	for _, p := range pool {
		for _, q := range pool {
			for _, s := range pool {
				for _, k := range ratios {
					wantCorner(t, seen, p, q, s, k)
				}
			}
		}
	}
	seen.least(t, 30, "told", "the same", "infinity", "of infinity")
	r := rand.New(rand.NewSource(2712))
	for n := range 200 {
		k := oddNum(r, 1+n%20)
		if !k.zero() {
			wantCorner(t, seen, oddSpot(r, 1+n%20), oddSpot(r, 1+n%20), oddSpot(r, 1+n%20), k)
		}
	}
}

// P27.1: of the three, each two may be the same, all three too; by any ratio, and
// however long they are.
func TestCornerOfTwins(t *testing.T) {
	long := at(num{ofInt(top()), under(top())})
	for _, p := range []spot{on(0, 0), far(), long, at(parts(-1, 3, 2, 7))} {
		for _, q := range []spot{on(1, 0), long, far(), on(0, 0)} {
			for _, k := range []num{in(-1, 0), {ofInt(top()), under(top())}} {
				for _, l := range [][3]spot{{p, p, q}, {p, q, p}, {q, p, p}, {p, p, p}} {
					got, e := nets.Corner(l[0].point(), l[1].point(), l[2].point(), k.gauss())
					wantNone(t, "Corner of twins", got, e, api.ErrNet)
				}
			}
		}
	}
}

// The ratio that makes it infinity: that of p, q, infinity and s.
func TestCornerAtInfinity(t *testing.T) { // P27.1
	seen := tally{}
	r := rand.New(rand.NewSource(2713))
	for n := range 100 {
		p, q, s := at(oddNum(r, 1+n/20)), at(oddNum(r, 1+n/20)), at(oddNum(r, 1+n/20))
		if !unlike(p, q, s) {
			continue
		}
		k, _ := four{p, q, far(), s}.ratio()
		wantCorner(t, seen, p, q, s, k.z)
	}
	seen.least(t, 50, "infinity")
}

// P27.1: ErrArg, ahead of points that are the same.
func TestCornerRefuses(t *testing.T) {
	p, q, s, k := on(0, 0).point(), on(1, 0).point(), on(0, 1).point(), in(-1, 0).gauss()
	rows := [][3]api.Point{{p, q, s}, {p, p, s}, {p, q, q}, {p, q, p}, {p, p, p}, {api.Point{Inf: true}, q, q}}
	for _, l := range rows {
		for _, z := range append(wrongNumbers(), in(0, 0).gauss(), in(1, 0).gauss()) {
			got, e := nets.Corner(l[0], l[1], l[2], z)
			wantNone(t, "Corner by a wrong ratio", got, e, api.ErrArg)
		}
		for _, x := range wrongPoints() {
			for n := range l {
				m := l
				m[n] = x
				for _, z := range []api.Gauss{k, in(0, 0).gauss(), in(1, 0).gauss()} {
					got, e := nets.Corner(m[0], m[1], m[2], z)
					wantNone(t, "Corner of a wrong point", got, e, api.ErrArg)
				}
			}
			got, e := nets.Corner(x, x, x, k)
			wantNone(t, "Corner of wrong points", got, e, api.ErrArg)
		}
	}
	// Ratios near 0 and 1 are none of these.
	for _, z := range []num{along(under(top())), along(plus(one(), under(twos(8000)))), {one(), under(top())}, upward(one())} {
		wantCorner(t, tally{}, far(), on(1, 0), on(0, 1), z)
	}
}

// P27.1: both sides of the bound, in both parts, above the line and below; and
// what is reckoned by the way is longer.
func TestCornerAtTheBound(t *testing.T) {
	seen := tally{}
	half := more(twos(8*api.MaxWhole-1), 0) // twice it is too long
	for _, x := range []*big.Rat{ofInt(half), ofInt(more(half, -1)), under(half), under(more(half, -1)), ratio(half, more(half, -1)), ratio(more(half, -1), more(half, -2))} {
		for _, by := range []num{in(1, 0), in(0, 1), in(-1, 0), in(1, 1), in(2, -1)} {
			z := by.scaled(x)
			// Of infinity, q and s and the ratio -1 it is midway between q and s.
			wantCorner(t, seen, far(), on(0, 0), at(z), in(-1, 0))
			wantCorner(t, seen, far(), at(z), at(z.scaled(rat(3, 1))), in(-1, 0))
			wantCorner(t, seen, on(0, 0), at(z), at(z.times(in(0, 1))), in(-1, 0))
			wantCorner(t, seen, on(0, 0), at(z), at(z.times(in(0, 1))), in(2, 0))
			wantCorner(t, seen, at(z), on(0, 0), at(z.neg()), parts(1, 3, 0, 1))
			wantCorner(t, seen, far(), on(0, 0), on(1, 0), in(1, 0).minus(in(1, 0).over(z)))
		}
	}
	r := rand.New(rand.NewSource(2714))
	for range 12 {
		size := 340 + r.Intn(3)
		wantCorner(t, seen, far(), at(along(long(r, size))), at(along(long(r, size))), along(ofInt(full(r, 340))))
		d := longNum(r, 1000)
		wantCorner(t, seen, at(d), at(d.plus(in(1, 0))), at(d.plus(in(0, 1))), in(-1, 0))
	}
	wantCorner(t, seen, at(longNum(r, 1024)), at(longNum(r, 1024)), at(longNum(r, 1024)), longNum(r, 1024))
	seen.least(t, 10, "told", "too big")
}
