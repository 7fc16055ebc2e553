package plane_test

import (
	"math/big"
	"testing"

	"tracery/api"
	"tracery/plane"
)

func TestHas(t *testing.T) { // P25.1
	for _, p := range pictures() {
		for _, z := range points(p) {
			if !plane.Has(p, z.gauss()) {
				t.Errorf("Has(%d, %s) is false", p, brief(z))
			}
		}
		for _, z := range outs(p) {
			if plane.Has(p, z.gauss()) {
				t.Errorf("Has(%d, %s) is true", p, brief(z))
			}
		}
		for _, z := range wrongNumbers() {
			if plane.Has(p, z) {
				t.Errorf("Has(%d) of what may not be is true: %v", p, z)
			}
		}
	}
	for _, p := range noPictures() {
		for _, z := range append(grains(api.Upper), grains(api.Round)...) {
			if plane.Has(p, z.gauss()) {
				t.Errorf("Has(%d, %s) is true", p, brief(z))
			}
		}
		for _, z := range wrongNumbers() {
			if plane.Has(p, z) {
				t.Errorf("Has(%d) of what may not be is true", p)
			}
		}
	}
}

// P25.1: each side of the edge, as near as may be.
func TestHasNextToTheEdge(t *testing.T) {
	for _, pair := range []num{parts(3, 5, 4, 5), parts(-4, 5, 3, 5), parts(5, 13, -12, 13), parts(-20, 29, -21, 29), in(1, 0), in(0, -1)} {
		for bytes := uint(1); bytes <= api.MaxWhole-1; bytes += 93 {
			by := under(twos(8 * bytes))
			in, out := pair.scaled(minus(one(), by)), pair.scaled(plus(one(), by))
			if !plane.Has(api.Round, in.gauss()) || plane.Has(api.Round, pair.gauss()) || plane.Has(api.Round, out.gauss()) {
				t.Errorf("%s is on the edge, but Has tells otherwise by 2 to the power -%d", brief(pair), 8*bytes)
			}
			above, below := num{pair.re, by}, num{pair.re, opposite(by)}
			if !plane.Has(api.Upper, above.gauss()) || plane.Has(api.Upper, below.gauss()) || plane.Has(api.Upper, real(pair.re).gauss()) {
				t.Errorf("%s is on the edge, but Has tells otherwise by 2 to the power -%d", brief(real(pair.re)), 8*bytes)
			}
		}
	}
}

func wantFar(t *testing.T, seen tally, p api.Picture, z, w num) {
	t.Helper()
	far := farOf(p, z, w)
	got, e := plane.Far(p, z.gauss(), w.gauss())
	wantFit(t, seen, "Far of "+brief(z)+" and "+brief(w), got, e, fraction(far), upTo(far))
}

func TestFar(t *testing.T) { // P25.1
	for _, p := range pictures() {
		seen := tally{}
		pairs(p, func(z, w num) {
			wantFar(t, seen, p, z, w)
			if !lengthy(z, w) {
				wantFar(t, seen, p, w, z)
			}
		})
		seen.least(t, 60, "fits", "too big")
	}
}

// P25.1: at the bound, and one past it. From i to n i it is (n n + 1) / (2 n),
// from 0 to n / m likewise 1 + 2 n n / (m m - n n).
func TestFarAtTheBound(t *testing.T) {
	seen := tally{}
	for _, add := range []int64{-4, -3, -2, -1, 0, 1, 2, 3} {
		n := more(half(), add)
		wantFar(t, seen, api.Upper, in(0, 1), num{none(), ofInt(n)})
		wantFar(t, seen, api.Upper, num{none(), under(n)}, in(0, 1))
		wantFar(t, seen, api.Upper, num{rat(1, 2), under(n)}, num{rat(1, 2), one()})
		wantFar(t, seen, api.Upper, in(0, 1), num{ofInt(n), one()})
		wantFar(t, seen, api.Upper, in(0, 1), num{under(n), one()})
		for _, m := range []*big.Rat{under(n), ratio(more(n, -1), n), ratio(more(n, -2), n), ratio(more(n, -3), more(n, 1))} {
			wantFar(t, seen, api.Round, in(0, 0), real(m))
			wantFar(t, seen, api.Round, num{none(), m}, in(0, 0))
		}
	}
	seen.least(t, 15, "fits", "too big")
	// As far as may be told: the number above the line has 1024 bytes.
	n := ofInt(more(half(), -2))
	got, e := plane.Far(api.Upper, in(7, 1).gauss(), num{rat(7, 1), n}.gauss())
	want(t, "Far", got, e, fraction(quo(plus(squared(n), one()), twice(n))))
	if len(got.Num.Mag) != api.MaxWhole {
		t.Errorf("Far has %d bytes", len(got.Num.Mag))
	}
}
