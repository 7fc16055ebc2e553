package mirrors_test

import (
	"math/big"
	"testing"

	"tracery/api"
)

// P19.6
func TestOrbit(t *testing.T) {
	for _, g := range glasses() {
		m := g.mirrors(t)
		for i, p := range spots() {
			if i%3 != len(g.name)%3 && i > 6 {
				continue
			}
			for most := range min(g.deep, 4) {
				list, wanted := g.orbit(p, most)
				l, e := m.Orbit(p.point(), most)
				wantList(t, g.name, l, e, list, wanted)
			}
		}
	}
}

// P19.6: what an element leaves where it is.
func TestOrbitThatStays(t *testing.T) {
	m := modular().mirrors(t)
	for _, c := range []struct {
		p    spot
		most int
		list []spot
	}{
		{on(0, 1), 0, []spot{on(0, 1)}},
		{on(0, 1), 1, []spot{on(0, 1), on(1, 1)}},
		{far(), 2, []spot{far(), on(0, 0), on(1, 0)}},
		{on(0, 0), 1, []spot{on(0, 0), on(1, 0), far()}},
		{on(1, 2), 1, []spot{on(1, 2), on(-1, 2), on(0, 2), at(parts(1, 5, 2, 5))}},
	} {
		var list []api.Point
		for _, p := range c.list {
			list = append(list, p.point())
		}
		l, e := m.Orbit(c.p.point(), c.most)
		wantList(t, "an orbit", l, e, list, api.OK)
	}
	cube := glass{[]ring{ringed(0, 1, 1, 0), ringed(1, 0, 1, -1), unit()}, []int{1, 1, 1}}.mirrors(t)
	for p, count := range map[spot]int{far(): 6, on(0, 1): 6} {
		l, e := cube.Orbit(p.point(), api.MaxList)
		if len(l) != count || e != api.OK {
			t.Errorf("a cube's: %d points, %v, want %d", len(l), e, count)
		}
	}
	l, e := cube.Orbit(at(parts(1, 7, 1, 9)).point(), api.MaxList)
	if len(l) != 48 || e != api.OK {
		t.Errorf("a cube's: %d points, %v", len(l), e)
	}
}

// P19.6: what may not be, and the errors of Elements.
func TestOrbitRefuses(t *testing.T) {
	for _, g := range glasses() {
		m := g.mirrors(t)
		for _, p := range wrongPoints() {
			for _, most := range []int{-1, 0, 1, api.MaxList, api.MaxList + 1} {
				l, e := m.Orbit(p, most)
				wantList(t, g.name, l, e, nil, api.ErrArg)
			}
		}
		for _, most := range wrongMosts() {
			l, e := m.Orbit(on(0, 1).point(), most)
			wantList(t, g.name, l, e, nil, api.ErrArg)
		}
	}
	m := rows(2, rat(0, 1), rat(1, 1)).mirrors(t)
	l, e := m.Orbit(on(0, 0).point(), 2048)
	wantList(t, "too many elements", l, e, nil, api.ErrMany)
	// The images are all one point, and too big ones come first: all the same it
	// is of the elements that is told first.
	l, e = m.Orbit(far().point(), 2048)
	wantList(t, "too many elements, one point", l, e, nil, api.ErrMany)
	l, e = m.Orbit(at(flat(ofInt(top()))).point(), 2048)
	wantList(t, "too many elements, points too big", l, e, nil, api.ErrMany)
	l, e = m.Orbit(far().point(), 2047)
	wantList(t, "one point", l, e, []api.Point{far().point()}, api.OK)
	l, e = rows(2, rat(0, 1), ofInt(share(3))).mirrors(t).Orbit(far().point(), 9)
	wantList(t, "elements that are too big", l, e, nil, api.ErrBig)
	l, e = rows(2, rat(0, 1), rat(1, 1)).with(level(new(big.Rat)), 1).mirrors(t).Orbit(on(0, 1).point(), 1024)
	if len(l) == 0 || e != api.OK {
		t.Errorf("MaxElems elements: %d points, %v", len(l), e)
	}
}

// P19.6: images that are too big.
func TestOrbitTooBig(t *testing.T) {
	seen := tally{}
	for _, g := range []glass{modular(), rows(2, rat(1, 3), rat(1, 1)), loose(3), rows(2, rat(0, 1), ofInt(share(7)))} {
		m := g.mirrors(t)
		for _, p := range []spot{at(flat(ofInt(top()))), at(num{rat(1, 2), ofInt(share(3))}), at(flat(under(top()))), at(num{under(share(5)), rat(1, 1)}), at(flat(ofInt(share(2))))} {
			for most := range 4 {
				list, wanted := g.orbit(p, most)
				l, e := m.Orbit(p.point(), most)
				wantList(t, "near the bound", l, e, list, wanted)
				seen[wanted.Error()]++
			}
		}
	}
	seen.least(t, 10, api.OK.Error(), api.ErrBig.Error())
}

// P19.6
func TestWalls(t *testing.T) {
	for _, g := range glasses() {
		m := g.mirrors(t)
		for most := range min(g.deep, 5) {
			list, wanted := g.walls(most)
			l, e := m.Walls(most)
			wantList(t, g.name, l, e, list, wanted)
		}
		for _, most := range wrongMosts() {
			l, e := m.Walls(most)
			wantList(t, g.name, l, e, nil, api.ErrArg)
		}
	}
	cube := glass{[]ring{ringed(0, 1, 1, 0), ringed(1, 0, 1, -1), unit()}, []int{1, 1, 1}}.mirrors(t)
	if l, e := cube.Walls(api.MaxList); len(l) != 9 || e != api.OK {
		t.Errorf("a cube's: %d walls, %v", len(l), e)
	}
	one := glass{[]ring{unit(), unit(), unit()}, []int{1, -1, 1}}
	l, e := one.mirrors(t).Walls(api.MaxList)
	wantList(t, "the same one, often", l, e, []api.Circle{unit().circle()}, api.OK)
	l, e = glass{}.mirrors(t).Walls(api.MaxList)
	wantList(t, "no mirror", l, e, nil, api.OK)
	list, _ := modular().walls(11)
	l, e = modular().mirrors(t).Walls(11)
	wantList(t, "the modular ones", l, e, list, api.OK)
	l, e = rows(2, rat(0, 1), rat(1, 1)).mirrors(t).Walls(1)
	wantList(t, "by hand", l, e, rowsOf(0, 1, -1, 2), api.OK)
}

// rowsOf are lines upright on the real one.
func rowsOf(l ...int64) []api.Circle {
	var out []api.Circle
	for _, x := range l {
		out = append(out, beside(rat(x, 1)).circle())
	}
	return out
}

// P19.6: MaxElems walls go, one more does not; the errors of Elements come first.
func TestWallsToTheBound(t *testing.T) {
	for _, c := range []struct {
		name string
		glass
		most, count int
		e           api.Errno
	}{
		{"two lines", rows(2, rat(0, 1), rat(1, 1)), 2047, 4096, api.OK},
		{"two lines, too many elements", rows(2, rat(0, 1), rat(1, 1)), 2048, 0, api.ErrMany},
		{"loose ones", loose(64), 1, 4096, api.OK},
		{"loose ones, too many elements", loose(64), 2, 0, api.ErrMany},
		{"sixteen loose ones", loose(16), 2, 3856, api.OK},
		{"one more of them", loose(17), 2, 0, api.ErrMany},
		{"one among them twice", loose(16).with(loose(16).rings[7], -1), 2, 3856, api.OK},
		{"elements too big, too many walls", rows(2, rat(0, 1), ofInt(share(3))), 2047, 0, api.ErrBig},
	} {
		l, e := c.mirrors(t).Walls(c.most)
		if len(l) != c.count || e != c.e || e != api.OK && l != nil {
			t.Errorf("%s: %d walls, %v, want %d, %v", c.name, len(l), e, c.count, c.e)
		}
	}
}

// P19.6: just one wall more than may be.
func TestOneWallMore(t *testing.T) {
	for count, l := range map[int][]int64{
		api.MaxElems:     {3255, 2512, 1840, 1006, 2103, 873, 2340, 2893, 1108, 6189, 6139, 3948, 1117, 3130, 6289, 2461, 3336},
		api.MaxElems + 1: {6484, 1980, 1258, 7564, 2892, 928, 1035, 2526, 3088, 4096, 5716, 3618, 5727, 7298, 3937, 5397, 6146},
	} {
		g := glass{}
		for _, x := range l {
			g = g.with(beside(rat(x, 1)), 1)
		}
		all, _ := g.elements(2)
		met := map[api.Circle]bool{}
		for _, x := range all {
			for _, r := range g.rings {
				met[x.m.image(r).circle()] = true
			}
		}
		if len(met) != count {
			t.Fatalf("%d walls, want %d", len(met), count)
		}
		list, wanted := g.walls(2)
		w, e := g.mirrors(t).Walls(2)
		wantList(t, "walls", w, e, list, wanted)
		if (e == api.OK) != (count == api.MaxElems) {
			t.Errorf("%d walls: %v", count, e)
		}
	}
}

// sparse are 17 lines of which no two words of two letters make the same wall.
// The wall behind MaxElems others is what 15 14 makes of the last one; by the
// numbers that 14, 15 and 17 have that is the one furthest away so far.
func sparse(m *big.Int) glass {
	g := glass{}
	x := big.NewInt(1)
	for range 17 {
		g = g.with(beside(ofInt(x)), 1)
		x = new(big.Int).Lsh(x, 4)
	}
	far := func(k int, by *big.Rat) {
		at := times(g.rings[k-1].c, rat(-1, 2))
		g.rings[k-1] = beside(plus(at, times(ofInt(m), by)))
	}
	far(14, rat(2, 1))
	far(15, rat(-2, 1))
	far(17, rat(3, 1))
	return g
}

// P19.6: walls that are too big, and which of the errors comes first.
func TestWallsTooBig(t *testing.T) {
	for _, c := range []struct {
		name string
		glass
		e api.Errno
	}{
		{"one too many", sparse(share(24)), api.ErrMany},
		{"one too many, and too big", sparse(share(21)), api.ErrBig},
		{"too big ahead of too many", sparse(share(19)), api.ErrBig},
	} {
		if _, e := c.elements(2); e != api.OK {
			t.Fatalf("%s: the elements: %v", c.name, e)
		}
		_, wanted := c.walls(2)
		wantError(t, c.name+" by the words", wanted, c.e)
		l, e := c.mirrors(t).Walls(2)
		wantList(t, c.name, l, e, nil, c.e)
	}
	seen := tally{}
	for n := int64(3); n < 9; n++ {
		for _, g := range []glass{
			rows(3, ofInt(share(5*n)), ofInt(share(2*n))),
			pair(beside(ofInt(twos(uint(500*n)))), unit()).with(beside(rat(0, 1)), 1),
			pair(about(flat(under(twos(uint(150*n)))), rat(1, n)), about(flat(under(twos(uint(149*n)))), rat(2, 1))),
		} {
			m := g.mirrors(t)
			for most := range 6 {
				list, wanted := g.walls(most)
				l, e := m.Walls(most)
				wantList(t, "near the bound", l, e, list, wanted)
				_, elements := g.elements(most)
				seen[wanted.Error()+" by "+elements.Error()]++
			}
		}
	}
	ok, big := api.OK.Error(), api.ErrBig.Error()
	seen.least(t, 5, ok+" by "+ok, big+" by "+ok, big+" by "+big)
}

// P19.6: that the wall behind MaxElems others is where the test above has it.
func TestSparseWalls(t *testing.T) {
	g := sparse(share(21))
	all, e := g.elements(2)
	wantError(t, "the elements", e, api.OK)
	met := map[api.Circle]bool{}
	for _, x := range all {
		for k, r := range g.rings {
			w := x.m.image(r)
			met[w.circle()] = true
			if len(met) <= api.MaxElems {
				if !w.fits() {
					t.Fatalf("%v makes of %d what is too big", x.word, k+1)
				}
				continue
			}
			if w.fits() || k != 16 || x.word[0] != 15 || x.word[1] != 14 {
				t.Errorf("%v makes of %d what is one too many", x.word, k+1)
			}
			return
		}
	}
	t.Error("too few walls")
}
