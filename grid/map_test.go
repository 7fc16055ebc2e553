package grid_test

import (
	"math/rand"
	"slices"
	"testing"

	"tracery/api"
	"tracery/grid"
)

func TestSame(t *testing.T) { // P26.6
	all := nets()
	for n, g := range all {
		made := g.grid(t)
		if !made.Same(made) || !made.Same(g.grid(t)) {
			t.Fatal("a grid is not the same as itself")
		}
		for k := range g.l {
			// A point that stands nowhere in it.
			if o := g.with(k, on(77, -3)).grid(t); made.Same(o) || o.Same(made) {
				t.Fatalf("with another point %d it is the same", k)
			}
		}
		o := all[(n+1)%len(all)]
		if same := g.w == o.w && g.h == o.h && slices.Equal(g.points(), o.points()); made.Same(o.grid(t)) != same || o.grid(t).Same(made) != same {
			t.Fatalf("two grids: same, want %v", same)
		}
	}
}

// The same points in the same order, as other sizes have them.
func TestSameAsksTheSize(t *testing.T) { // P26.6
	l := laid(in(0, 0), in(1, 0), in(0, 1), 11, 1).l // 24 points
	var grids []*grid.Grid
	for _, x := range [][2]int{{11, 1}, {1, 11}, {7, 2}, {2, 7}, {5, 3}, {3, 5}} {
		grids = append(grids, listed(x[0], x[1], l...).grid(t))
	}
	for n, g := range grids {
		for m, o := range grids {
			if g.Same(o) != (n == m) {
				t.Errorf("%d and %d: same %v", n, m, g.Same(o))
			}
		}
	}
	same := slices.Repeat([]spot{on(1, 0)}, 12)
	if listed(3, 2, same...).grid(t).Same(listed(2, 3, same...).grid(t)) {
		t.Error("2 by 3 is the same as 3 by 2")
	}
}

func TestSameOfNothing(t *testing.T) { // P26.6
	made := unit().grid(t)
	nothing := []*grid.Grid{nil, {}, new(grid.Grid)}
	for _, g := range nothing {
		for _, o := range nothing {
			if !g.Same(o) {
				t.Error("nothing is not the same as nothing")
			}
		}
		if g.Same(made) || made.Same(g) {
			t.Error("nothing is the same as a grid")
		}
	}
}

func wantMap(t *testing.T, seen tally, g, o lattice) {
	t.Helper()
	got, e := g.grid(t).Map(o.grid(t))
	wanted, is := g.to(o)
	switch {
	case !is:
		seen["none"]++
		wantNone(t, "a map that is not there", got, e, api.ErrNone)
	case !wanted.fits():
		seen["too big"]++
		wantNone(t, "a map that is too big", got, e, api.ErrBig)
	default:
		seen["fits"]++
		want(t, "Map", got, e, wanted.mob())
	}
}

func TestMap(t *testing.T) { // P26.6
	seen := tally{}
	r := rand.New(rand.NewSource(2660))
	all := nets()
	for n, g := range all {
		wantMap(t, seen, g, g)
		wantMap(t, seen, g, all[r.Intn(len(all))])
		for k, m := range charts() {
			if n >= 10 && (n+k)%4 != 0 {
				continue
			}
			o := g.image(m)
			wantMap(t, seen, g, o)
			wantMap(t, seen, o, g)
			place := r.Intn(len(o.l))
			wantMap(t, seen, g, o.with(place, on(31, 17)))
			wantMap(t, seen, g, o.with(place, far()))
			wantMap(t, seen, g, o.with(place, o.l[r.Intn(len(o.l))]))
			wantMap(t, seen, g.with(place, g.l[r.Intn(len(g.l))]), o)
		}
	}
	seen.least(t, 100, "none", "fits")
}

// Grids of one square, with all that may be the same in the one and the other.
func TestMapOfSquares(t *testing.T) { // P26.6
	seen := tally{}
	pool := []spot{far(), on(0, 0), on(1, 0), on(0, 1)}
	var l []lattice
	for n := range 256 {
		l = append(l, listed(1, 1, pool[n/64], pool[n/16%4], pool[n/4%4], pool[n%4]))
	}
	for n, g := range l {
		for m, o := range l {
			if n == m || (n*31+m)%5 == 0 {
				wantMap(t, seen, g, o)
			}
		}
	}
	seen.least(t, 100, "none", "fits")
}

func TestMapOfUnlikeSizes(t *testing.T) { // P26.6
	l := laid(in(0, 0), in(1, 0), in(0, 1), 11, 1).l
	sizes := [][2]int{{11, 1}, {1, 11}, {7, 2}, {2, 7}, {5, 3}, {3, 5}}
	for n, x := range sizes {
		for m, y := range sizes {
			got, e := listed(x[0], x[1], l...).grid(t).Map(listed(y[0], y[1], l...).grid(t))
			if n == m {
				want(t, "Map of a grid and itself", got, e, still().mob())
			} else {
				wantNone(t, "Map of unlike sizes", got, e, api.ErrNone)
			}
		}
	}
	got, e := unit().grid(t).Map(unit().part(0, 0, 1, 1).grid(t))
	wantNone(t, "Map of a grid and its part", got, e, api.ErrNone)
}

// The three points that tell the map may stand far behind.
func TestMapOfFewUnlikePoints(t *testing.T) { // P26.6
	seen := tally{}
	g := listed(3, 3, slices.Repeat([]spot{on(2, 1)}, 16)...)
	wantMap(t, seen, g, g)
	for _, m := range charts()[:6] {
		two := g.with(9, far())
		wantMap(t, seen, two, two.image(m))
		three := two.with(15, on(0, 5))
		wantMap(t, seen, three, three.image(m))
		// Where g has one point, o must have one, too.
		for k := range three.l {
			wantMap(t, seen, three, three.image(m).with(k, on(6, 6)))
			wantMap(t, seen, three.with(k, on(6, 6)), three.image(m))
		}
	}
	if seen["fits"] < 6 || seen["none"] < 100 {
		t.Errorf("seen just %v", seen)
	}
}

// One point elsewhere, wherever it stands.
func TestMapAsksAllPoints(t *testing.T) { // P26.6
	g := laid(in(1, 0), in(2, 1), parts(-1, 3, 1, 1), 64, 64)
	made := g.grid(t)
	m := chart{a: in(2, 0), b: in(0, 1), c: in(1, 0), d: in(3, -7)}
	o := g.image(m)
	got, e := made.Map(o.grid(t))
	want(t, "Map of a grid as great as may be", got, e, m.mob())
	for _, k := range []int{0, 1, 2, 64, 65, 66, 2112, 4000, 4159, 4160, 4223, 4224} {
		got, e := made.Map(o.with(k, at(parts(1, 77, 1, 1))).grid(t))
		wantNone(t, "Map with one point elsewhere", got, e, api.ErrNone)
	}
	// The conjugates are where no map that does not turn sends them.
	got, e = made.Map(g.image(still().turned()).grid(t))
	wantNone(t, "Map of a grid and its mirror image", got, e, api.ErrNone)
	// All on one circle: a map that turns sends them where one that does not does.
	flat := listed(2, 1, on(0, 0), on(1, 0), on(5, 0), far(), on(-2, 0), on(7, 0))
	got, e = flat.grid(t).Map(flat.image(m.turned()).grid(t))
	want(t, "Map of a flat grid and its image by what turns", got, e, m.mob())
}

// A map that is too big is refused only where it sends all points rightly.
func TestMapTooBig(t *testing.T) { // P26.6
	seen := tally{}
	r := rand.New(rand.NewSource(2661))
	tiny := func(power uint) lattice { return unit().image(stretch(along(under(twos(power))))) }
	great := func(power uint) lattice { return unit().image(stretch(along(ofInt(twos(power))))) }
	for _, x := range []struct {
		g, o lattice
		want api.Errno
	}{
		{tiny(100), great(8091), api.OK}, {tiny(100), great(8092), api.ErrBig}, {great(8091), tiny(100), api.OK}, {great(8092), tiny(100), api.ErrBig}, {tiny(8000), great(8000), api.ErrBig}, {great(8000), tiny(8000), api.ErrBig}, {tiny(8000), great(191), api.OK},
		// Not by how far it stretches, but by where it slides.
		{unit().image(slide(along(ofInt(more(top(), -2))))), unit().image(slide(along(ofInt(more(past(), -3))).neg())), api.ErrBig}, {unit().image(slide(along(ofInt(more(top(), -2))))), unit(), api.OK},
	} {
		got, e := x.g.grid(t).Map(x.o.grid(t))
		if e != x.want {
			t.Fatalf("a map at the bound: %s, %v, want %v", brief(got), e, x.want)
		}
		wantMap(t, seen, x.g, x.o)
		for k := range x.o.l {
			for _, p := range []spot{far(), on(0, 0), on(3, 1), x.o.l[(k+1)%6], at(longNum(r, 200))} {
				if p.same(x.o.l[k]) {
					continue
				}
				got, e = x.g.grid(t).Map(x.o.with(k, p).grid(t))
				wantNone(t, "a map that is too big, and sends one elsewhere", got, e, api.ErrNone)
			}
		}
		// First points that are the same, in the one, and in the other.
		same := x.o.with(1, x.o.l[0])
		got, e = x.g.grid(t).Map(same.grid(t))
		wantNone(t, "no map", got, e, api.ErrNone)
		got, e = same.grid(t).Map(x.g.grid(t))
		wantNone(t, "no map", got, e, api.ErrNone)
	}
	for n := range 12 {
		three := func(size int) lattice {
			g := listed(1, 1, at(longNum(r, size)), at(longNum(r, size)), at(longNum(r, size)))
			g.l = append(g.l, g.l[n%3])
			return g
		}
		g, o := three(20+n), three(40+n)
		wantMap(t, seen, g, o)
		wantMap(t, seen, g, o.with(3, o.l[(n+1)%3]))
	}
	seen.least(t, 5, "fits", "too big", "none")
	// Points as long as may be.
	three := []spot{at(longNum(r, 1024)), at(longNum(r, 1024)), at(longNum(r, 1024))}
	g := listed(1, 1, three[0], three[1], three[2], three[0])
	o := listed(1, 1, three[1], three[2], three[0], three[1])
	got, e := g.grid(t).Map(o.grid(t))
	wantNone(t, "a map of long points", got, e, api.ErrBig)
	got, e = g.grid(t).Map(o.with(3, three[0]).grid(t))
	wantNone(t, "no map of long points", got, e, api.ErrNone)
	got, e = g.grid(t).Map(g.grid(t))
	want(t, "what moves no long points", got, e, still().mob())
}
