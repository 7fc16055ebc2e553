package fixed_test

import (
	"math/rand"
	"slices"
	"testing"

	"tracery/api"
	"tracery/fixed"
	"tracery/gauss"
	"tracery/mob"
)

// maps are some of all kinds: every third one of the grains, and odd ones.
func maps() []api.Mob {
	var l []api.Mob
	for n, m := range grains() {
		if n%3 == 0 {
			l = append(l, m.mob())
		}
	}
	r := rand.New(rand.NewSource(1570))
	for n := range 60 {
		p, q := oddSpot(r, 2), oddNum(r, 2)
		if !p.same(at(q)) {
			l = append(l, spun(p, q, factors()[n%len(factors())]).mob(), pushed(p, in(1, 2)).mob())
		}
		l = append(l, oddMap(r, 2).mob())
	}
	return append(l, mob.One(), swap().mob(), third().mob(), sixth().mob(), stretch(in(0, 1)).mob())
}

func turning(m api.Mob) api.Mob {
	m.Turns = true
	return m
}

func TestPointsStayAndNoOthers(t *testing.T) { // P15.7
	seen := tally{}
	all := pointsOf(spots())
	for _, m := range maps() {
		l, e := fixed.Points(m)
		if e == api.ErrMoved {
			if m != mob.One() {
				t.Fatalf("%v moves nothing", m)
			}
			continue
		}
		for _, p := range l {
			wantIs(t, "a point of Points", must[bool](t)(fixed.Stays(m, p)), api.OK, true)
			if must[api.Point](t)(mob.At(m, p)) != p {
				t.Fatalf("%s moves", briefPoints([]api.Point{p}))
			}
		}
		for _, p := range all {
			wantIs(t, "any point", must[bool](t)(fixed.Stays(m, p)), api.OK, slices.Contains(l, p))
			if slices.Contains(l, p) {
				seen["among all"]++
			}
		}
		shift := must[api.MobKind](t)(fixed.Kind(m)) == api.MobShift
		switch {
		case e == api.ErrNone && !shift:
			seen["no exact ones"]++
		case e == api.OK && len(l) == 1 && shift:
			seen["one"]++
		case e == api.OK && len(l) == 2 && !shift && l[0] != l[1]:
			seen["two"]++
		default:
			t.Fatalf("%d points, %v, of MobShift: %v", len(l), e, shift)
		}
	}
	seen.least(t, 40, "among all", "no exact ones", "one", "two")
}

func TestOrdersAndKinds(t *testing.T) { // P15.7, P0.6
	plain, turned := []int{0, 1, 2, 3, 4, 6}, []int{0, 2, 4, 6, 8, 12}
	order := must[int](t)
	for _, m := range maps() {
		n, kind := order(fixed.Order(m)), must[api.MobKind](t)(fixed.Kind(m))
		switch {
		case !slices.Contains(plain, n), n > 1 && kind != api.MobRound, (n == 1) != (kind == api.MobStill):
			t.Fatalf("order %d of kind %d", n, kind)
		case !slices.Contains(turned, order(fixed.Order(turning(m)))):
			t.Fatalf("order %d of what turns", order(fixed.Order(turning(m))))
		case n != order(mob.Order(m)), order(fixed.Order(turning(m))) != order(mob.Order(turning(m))):
			t.Fatalf("order %d is not that of layer 8", n)
		}
		for k := 1; n > 0 && k <= n; k++ {
			if power := must[api.Mob](t)(mob.Power(m, k)); (power == mob.One()) != (k == n) {
				t.Fatalf("order %d, but %d times is %v", n, k, power)
			}
		}
	}
}

func TestBroughtElsewhere(t *testing.T) { // P15.7
	r := rand.New(rand.NewSource(1571))
	made := must[api.Mob](t)
	seen := tally{}
	for _, m := range maps() {
		by := oddMap(r, 2).mob()
		n := made(mob.Compose(by, m, made(mob.Inverse(by))))
		s, e := fixed.Sign(m)
		there, wrong := fixed.Sign(n)
		if s != there || e != wrong || e != api.OK {
			t.Fatalf("the sign %s, %v is %s, %v elsewhere", brief(s), e, brief(there), wrong)
		}
		kind := must[api.MobKind](t)(fixed.Kind(m))
		wantIs(t, "the kind elsewhere", must[api.MobKind](t)(fixed.Kind(n)), api.OK, kind)
		wantIs(t, "the order elsewhere", must[int](t)(fixed.Order(n)), api.OK, must[int](t)(fixed.Order(m)))
		wantIs(t, "alike", must[bool](t)(fixed.Alike(m, n)), api.OK, true)
		seen[kindName(kind)]++
		// What stays is brought along, in one order or in the other.
		here, e := fixed.Points(m)
		elsewhere, wrong := fixed.Points(n)
		images, _ := mob.Images(by, here...)
		for _, p := range images {
			if !slices.Contains(elsewhere, p) {
				t.Fatalf("%s stays no more", briefPoints([]api.Point{p}))
			}
		}
		if e != wrong || len(here) != len(elsewhere) {
			t.Fatalf("%d points, %v, elsewhere %d, %v", len(here), e, len(elsewhere), wrong)
		}
		wantIs(t, "a map and its inverse", must[bool](t)(fixed.Alike(m, made(mob.Inverse(m)))), api.OK, true)
	}
	seen.least(t, 20, "shift", "round", "away", "spiral")
	seen.least(t, 1, "still")
}

func TestFactorTellsSignAndOrder(t *testing.T) { // P15.7
	number := must[api.Gauss](t)
	seen := tally{}
	for _, m := range maps() {
		k, e := fixed.Factor(m)
		l, wrong := fixed.Points(m)
		if e != wrong {
			t.Fatalf("the factor: %v, the points: %v", e, wrong)
		}
		if e != api.OK {
			continue
		}
		inverse := number(gauss.Div(gauss.Int(1, 0), k))
		if number(fixed.Sign(m)) != number(gauss.Sum(k, gauss.Int(2, 0), inverse)) {
			t.Fatalf("the factor %s has another sign", brief(k))
		}
		if len(l) == 1 {
			wantIs(t, "the factor of one point", k, api.OK, gauss.Int(1, 0))
			continue
		}
		n := must[int](t)(fixed.Order(m))
		for j := 1; j <= 12; j++ {
			back := number(gauss.Pow(k, j)) == gauss.Int(1, 0)
			if back != (n > 0 && j%n == 0) {
				t.Fatalf("order %d, but %s to the power %d is 1: %v", n, brief(k), j, back)
			}
		}
		seen[map[bool]string{true: "comes back", false: "never does"}[n > 0]]++
	}
	seen.least(t, 30, "comes back", "never does")
}

// What is told does not hang on earlier calls.
func TestAgain(t *testing.T) { // P15.7
	r := rand.New(rand.NewSource(1572))
	for range 60 {
		m, n := oddMap(r, 4).mob(), oddMap(r, 4).mob()
		sign, e := fixed.Sign(m)
		points, wrong := fixed.Points(m)
		floats, bad := fixed.Floats(m)
		fixed.Sign(n)
		fixed.Points(n)
		fixed.Floats(turning(n))
		fixed.Factor(api.Mob{})
		fixed.Alike(m, n)
		if s, x := fixed.Sign(m); s != sign || x != e {
			t.Fatal("the sign is told otherwise again")
		}
		if l, x := fixed.Points(m); !slices.Equal(l, points) || x != wrong {
			t.Fatal("the points are told otherwise again")
		}
		if l, x := fixed.Floats(m); !sameFloats(l, floats) || x != bad {
			t.Fatal("the floats are told otherwise again")
		}
	}
}
