package mirrors_test

import (
	"math/big"
	"slices"
	"testing"

	"tracery/api"
	"tracery/mirrors"
)

// wantMirrors wants m to tell just these.
func wantMirrors(t *testing.T, what string, m *mirrors.Mirrors, g glass) {
	t.Helper()
	if m.Len() != len(g.rings) {
		t.Fatalf("%s: %d mirrors, want %d", what, m.Len(), len(g.rings))
	}
	for k, r := range g.rings {
		c, side, e := m.Mirror(k + 1)
		if c != r.circle() || side != g.sides[k] || e != api.OK {
			t.Fatalf("%s: the mirror %d is another one, %d, %v", what, k+1, side, e)
		}
	}
	for _, k := range wrongNumbers(len(g.rings)) {
		c, side, e := m.Mirror(k)
		wantNone(t, what+": a circle", c, e, api.ErrArg)
		wantNone(t, what+": a side", side, e, api.ErrArg)
	}
}

func wantNoMirrors(t *testing.T, what string, circles []api.Circle, sides []int, wanted api.Errno) {
	t.Helper()
	m, e := mirrors.New(circles, sides)
	wantNone(t, what, m, e, wanted)
}

// P19.1
func TestNew(t *testing.T) {
	for _, g := range glasses() {
		wantMirrors(t, g.name, g.mirrors(t), g.glass)
	}
	none, e := mirrors.New([]api.Circle{}, []int{})
	if none == nil || e != api.OK || none.Len() != 0 {
		t.Errorf("New of none is %v, %v", none, e)
	}
	wantMirrors(t, "as many as may be", loose(api.MaxMaps).mirrors(t), loose(api.MaxMaps))
}

// P19.1: what may not be, ahead of all else.
func TestNewRefuses(t *testing.T) {
	u := unit().circle()
	wantNoMirrors(t, "no side", []api.Circle{u}, nil, api.ErrArg)
	wantNoMirrors(t, "no circle", nil, []int{1}, api.ErrArg)
	g := loose(4)
	wantNoMirrors(t, "a side less", g.circles(), g.sides[:3], api.ErrArg)
	wantNoMirrors(t, "a side more", g.circles()[:3], g.sides, api.ErrArg)
	for n := range 3 {
		for _, c := range wrongCircles() {
			l := g.circles()
			l[n] = c
			wantNoMirrors(t, "a circle that may not be", l, g.sides, api.ErrArg)
		}
		for _, side := range wrongSides() {
			l := slices.Clone(g.sides)
			l[n] = side
			wantNoMirrors(t, "a side that is none", g.circles(), l, api.ErrArg)
		}
	}
}

// P19.1: the order of the errors.
func TestNewOrderOfErrors(t *testing.T) {
	for _, n := range []int{api.MaxMaps + 1, api.MaxMaps + 2, 1000} {
		g := loose(n)
		wantNoMirrors(t, "too many", g.circles(), g.sides, api.ErrLong)
		wantNoMirrors(t, "too many, a side less", g.circles(), g.sides[1:], api.ErrArg)
		wantNoMirrors(t, "just enough sides", g.circles(), g.sides[:api.MaxMaps], api.ErrArg)
		wantNoMirrors(t, "just enough circles", g.circles()[:api.MaxMaps], g.sides, api.ErrArg)
		for _, k := range []int{0, api.MaxMaps, n - 1} {
			l := g.circles()
			l[k] = steep().circle()
			wantNoMirrors(t, "too many, one too big", l, g.sides, api.ErrLong)
			l[k] = api.Circle{}
			wantNoMirrors(t, "too many, one that may not be", l, g.sides, api.ErrArg)
			sides := slices.Clone(g.sides)
			sides[k] = 0
			wantNoMirrors(t, "too many, a side that is none", g.circles(), sides, api.ErrArg)
		}
	}
	for k := range 3 {
		l := loose(3).circles()
		l[k] = steep().circle()
		wantNoMirrors(t, "one too big", l, []int{1, -1, 1}, api.ErrBig)
		wantNoMirrors(t, "one too big, a side that is none", l, []int{1, -1, 7}, api.ErrArg)
		wantNoMirrors(t, "one too big, a side more", l, []int{1, -1, 1, 1}, api.ErrArg)
		l[(k+1)%3] = api.Circle{}
		wantNoMirrors(t, "one too big, one that may not be", l, []int{1, -1, 1}, api.ErrArg)
	}
	g := loose(api.MaxMaps)
	g.rings[api.MaxMaps-1] = steep()
	wantNoMirrors(t, "the last one too big", g.circles(), g.sides, api.ErrBig)
}

// P19.1: turnings that are as big as may be.
func TestNewToTheBound(t *testing.T) {
	for _, x := range []*big.Rat{ofInt(top()), under(top()), opposite(ofInt(top()))} {
		half, below := times(x, rat(1, 2)), opposite(new(big.Rat).Abs(x))
		g := pair(beside(half), level(half)).with(ring{rat(1, 1), num{x, x}, below}, 1).with(ringed(0, 1, 1, 0), -1)
		wantMirrors(t, "as big as may be", g.mirrors(t), g)
	}
	seen := tally{}
	for n := uint(4080); n < 4110; n++ {
		k := steep()
		k.b.im = ofInt(twos(n))
		if !k.turning().fits() {
			wantNoMirrors(t, "a steep line", []api.Circle{k.circle()}, []int{1}, api.ErrBig)
			seen["too big"]++
			continue
		}
		g := glass{[]ring{k}, []int{-1}}
		wantMirrors(t, "a steep line", g.mirrors(t), g)
		seen["fits"]++
	}
	seen.least(t, 5, "fits", "too big")
}

// P19.7
func TestModular(t *testing.T) {
	m, e := mirrors.Modular()
	wantError(t, "Modular", e, api.OK)
	wantMirrors(t, "Modular", m, modular())
	for _, p := range spots() {
		inside := p.inf || p.z.re.Sign() >= 0 && p.z.re.Cmp(rat(1, 2)) <= 0 && p.z.norm().Cmp(rat(1, 1)) >= 0
		k, e := m.Behind(p.point())
		if (k == 0) != inside || e != api.OK {
			t.Errorf("%v: home is %v, behind %d, %v", p.point(), inside, k, e)
		}
	}
}

// P19.1 to P19.6: mirrors that are not there.
func TestNothings(t *testing.T) {
	for name, m := range nothings() {
		if m.Len() != 0 {
			t.Errorf("%s: Len is %d", name, m.Len())
		}
		for _, p := range append(wrongPoints(), far().point(), on(0, 2).point()) {
			k, e := m.Behind(p)
			wantNone(t, name+": Behind", k, e, api.ErrNil)
			for _, most := range append(wrongMosts(), 0, 9) {
				q, w, e := m.Bring(p, most)
				wantNoHome(t, name+": Bring", q, w, e, api.ErrNil)
				steps, e := m.Steps(p, most)
				if steps != nil || e != api.ErrNil {
					t.Errorf("%s: Steps is %v", name, e)
				}
				orbit, e := m.Orbit(p, most)
				wantList(t, name+": Orbit", orbit, e, nil, api.ErrNil)
			}
		}
		for _, k := range append(wrongNumbers(3), 1) {
			c, side, e := m.Mirror(k)
			wantNone(t, name+": Mirror", c, e, api.ErrNil)
			wantNone(t, name+": Mirror", side, e, api.ErrNil)
			n, e := m.Order(k, 1)
			wantNone(t, name+": Order", n, e, api.ErrNil)
			x, e := m.Map(k)
			wantNone(t, name+": Map", x, e, api.ErrNil)
		}
		x, e := m.Map()
		wantNone(t, name+": Map", x, e, api.ErrNil)
		x, e = m.Map(make([]int, api.MaxList+1)...)
		wantNone(t, name+": Map", x, e, api.ErrNil)
		for _, most := range append(wrongMosts(), 0, 9) {
			maps, firsts, e := m.Elements(most)
			wantElements(t, name+": Elements", maps, firsts, e, nil, api.ErrNil)
			walls, e := m.Walls(most)
			wantList(t, name+": Walls", walls, e, nil, api.ErrNil)
		}
	}
}
