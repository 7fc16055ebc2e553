package mirrors_test

import (
	"iter"
	"math/big"
	"slices"
	"testing"

	"tracery/api"
	"tracery/mirrors"
)

// steps wants Steps to answer a function.
func steps(t *testing.T, m *mirrors.Mirrors, p spot, most int) iter.Seq2[int, api.Point] {
	t.Helper()
	all, e := m.Steps(p.point(), most)
	if all == nil || e != api.OK {
		t.Fatalf("Steps is %v", e)
	}
	return all
}

// told is a point of a way, with its number.
type told struct {
	n int
	p api.Point
}

func gather(all iter.Seq2[int, api.Point]) []told {
	var l []told
	for n, p := range all {
		l = append(l, told{n, p})
	}
	return l
}

// numbered are the points of a way that fit.
func numbered(points []spot) []told {
	var l []told
	for n, p := range points {
		if p.fits() {
			l = append(l, told{n, p.point()})
		}
	}
	return l
}

// wantBrought holds Bring and Steps against the words of P19.3.
func wantBrought(t *testing.T, what string, g glass, m *mirrors.Mirrors, p spot, most int) string {
	t.Helper()
	points, word := g.way(p, most)
	q, w, e := m.Bring(p.point(), most)
	if !slices.Equal(gather(steps(t, m, p, most)), numbered(points)) {
		t.Fatalf("%s: Steps tells other points, want %d", what, len(points))
	}
	last := points[len(points)-1]
	switch {
	case !last.fits():
		wantNoHome(t, what, q, w, e, api.ErrBig)
		return "too big"
	case g.behind(last) != 0:
		wantNoHome(t, what, q, w, e, api.ErrMany)
		return "too many"
	}
	wantHome(t, what, q, w, e, last, word...)
	return "home"
}

// P19.2
func TestBehind(t *testing.T) {
	seen := tally{}
	for _, g := range glasses() {
		m := g.mirrors(t)
		for _, p := range spots() {
			k, e := m.Behind(p.point())
			want(t, g.name+": Behind", k, e, g.behind(p))
			seen[[]string{"home", "the first one", "another one"}[min(k, 2)]]++
		}
		for _, p := range wrongPoints() {
			k, e := m.Behind(p)
			wantNone(t, g.name+": Behind", k, e, api.ErrArg)
		}
	}
	seen.least(t, 50, "home", "the first one", "another one")
}

// P19.2: infinity, and points on a mirror.
func TestBehindAtTheEdge(t *testing.T) {
	for _, side := range []int{-1, 1} {
		for _, k := range []ring{unit(), about(in(5, 5), rat(1, 9)), beside(rat(3, 1)), ringed(0, 1, 1, 0)} {
			g := glass{[]ring{k}, []int{side}}
			for _, p := range []spot{far(), on(0, 1), on(1, 0), at(parts(3, 5, 4, 5)), on(3, 0), on(3, -7), on(1, 1), on(0, 0), at(parts(5, 1, 14, 3))} {
				n, e := g.mirrors(t).Behind(p.point())
				want(t, "Behind", n, e, g.behind(p))
			}
		}
	}
	within := glass{[]ring{unit()}, []int{-1}}
	n, e := within.mirrors(t).Behind(far().point())
	want(t, "infinity at a circle from within", n, e, 1)
	q, w, e := within.mirrors(t).Bring(far().point(), 1)
	wantHome(t, "infinity", q, w, e, on(0, 0), 1)
	line := glass{[]ring{beside(rat(0, 1))}, []int{-1}}
	n, e = line.mirrors(t).Behind(far().point())
	want(t, "infinity at a line", n, e, 0)
}

// P19.2: numbers as long as may be, and values far longer.
func TestBehindOfLongNumbers(t *testing.T) {
	near := num{quo(ofInt(top()), ofInt(share(3))), under(top())}
	g := glass{[]ring{{rat(1, 1), num{under(top()), under(share(7))}, opposite(under(share(9)))}, beside(near.re)}, []int{-1, 1}}
	m := g.mirrors(t)
	for _, p := range []spot{at(near), at(near.neg()), at(num{ofInt(top()), under(top())}), at(num{under(share(3)), ofInt(share(11))})} {
		k, e := m.Behind(p.point())
		want(t, "Behind", k, e, g.behind(p))
	}
}

// P19.3
func TestBring(t *testing.T) {
	seen := tally{}
	for _, g := range glasses() {
		m := g.mirrors(t)
		for _, p := range spots() {
			_, word := g.way(p, 60)
			for _, most := range []int{0, 1, len(word) - 1, len(word), len(word) + 1, 30, 60} {
				if most >= 0 {
					seen[wantBrought(t, g.name, g.glass, m, p, most)]++
				}
			}
		}
	}
	seen.least(t, 500, "home", "too many")
}

// P19.3: what may not be.
func TestBringRefuses(t *testing.T) {
	for _, g := range glasses() {
		m := g.mirrors(t)
		check := func(p api.Point, most int) {
			t.Helper()
			q, w, e := m.Bring(p, most)
			wantNoHome(t, g.name, q, w, e, api.ErrArg)
			all, e := m.Steps(p, most)
			if all != nil || e != api.ErrArg {
				t.Errorf("%s: Steps is %v", g.name, e)
			}
		}
		for _, p := range wrongPoints() {
			for _, most := range append(wrongMosts(), 0, api.MaxList) {
				check(p, most)
			}
		}
		for _, most := range wrongMosts() {
			check(on(0, 2).point(), most)
			check(on(-7, 1).point(), most)
			check(far().point(), most)
		}
	}
}

// P19.3: as many turnings as may be.
func TestBringToTheBound(t *testing.T) {
	m := modular().mirrors(t)
	for _, c := range []struct {
		x     int64
		takes int
	}{{2047, 4093}, {2048, 4095}, {-2048, 4096}, {2049, 4097}, {-2049, 4098}} {
		q, w, e := m.Bring(on(c.x, 1).point(), api.MaxList)
		if c.takes > api.MaxList {
			wantNoHome(t, "too far", q, w, e, api.ErrMany)
			continue
		}
		if len(w) != c.takes {
			t.Errorf("%d turnings, want %d", len(w), c.takes)
		}
		_, word := modular().way(on(c.x, 1), api.MaxList)
		wantHome(t, "far", q, w, e, on(0, 1), word...)
		q, w, e = m.Bring(on(c.x, 1).point(), c.takes)
		wantHome(t, "just enough", q, w, e, on(0, 1), word...)
		q, w, e = m.Bring(on(c.x, 1).point(), c.takes-1)
		wantNoHome(t, "one less", q, w, e, api.ErrMany)
	}
	for most, want := range map[int]int{0: 1, 1: 2, 4095: 4096, 4096: 4097} {
		l := gather(steps(t, m, on(5000, 1), most))
		if len(l) != want || l[len(l)-1].n != most {
			t.Errorf("Steps of %d: %d points", most, len(l))
		}
	}
}

// P19.3: mirrors between which a point goes to and fro for ever.
func TestBringForEver(t *testing.T) {
	for _, c := range []struct {
		name string
		glass
		p spot
	}{
		{"both sides of a circle", pair(unit(), unit()), on(2, 1)},
		{"both sides of a circle, by infinity", pair(unit(), unit()), on(0, 0)},
		{"both sides of a line", pair(beside(rat(0, 1)), beside(rat(0, 1))), on(3, 1)},
		{"lines that look away", glass{[]ring{beside(rat(0, 1)), beside(rat(1, 1))}, []int{-1, 1}}, on(2, 0)},
		{"circles in each other", glass{[]ring{about(in(0, 0), rat(1, 1)), about(in(0, 0), rat(4, 1))}, []int{-1, 1}}, at(parts(3, 2, 0, 1))},
	} {
		m := c.mirrors(t)
		for _, most := range []int{0, 1, 2, 99, 100} {
			if got := wantBrought(t, c.name, c.glass, m, c.p, most); got != "too many" {
				t.Errorf("%s: %s", c.name, got)
			}
		}
	}
	m := pair(unit(), unit()).mirrors(t)
	q, w, e := m.Bring(on(2, 1).point(), api.MaxList)
	wantNoHome(t, "for ever", q, w, e, api.ErrMany)
	if l := gather(steps(t, m, on(2, 1), api.MaxList)); len(l) != api.MaxList+1 || l[1].p != l[api.MaxList-1].p {
		t.Errorf("%d points", len(l))
	}
}

// P19.3: points that get too big, and which of the errors comes first.
func TestBringTooBig(t *testing.T) {
	seen := tally{}
	apart := func(d *big.Int) glass {
		return glass{[]ring{beside(rat(0, 1)), beside(ofInt(d))}, []int{-1, 1}}
	}
	for _, c := range []struct {
		name string
		glass
		p spot
	}{
		{"lines that look away", apart(share(9)), on(1, 2)},
		{"the same, near the bound", apart(share(8)), at(num{ofInt(share(16)), rat(1, 3)})},
		{"a circle's centre", glass{[]ring{about(in(0, 0), rat(4, 1))}, []int{1}}, at(flat(under(share(3))))},
		{"a circle's centre, longer", glass{[]ring{about(in(0, 0), rat(4, 1))}, []int{1}}, at(flat(under(share(4))))},
		{"both parts", glass{[]ring{unit()}, []int{1}}, at(num{under(twos(3000)), under(new(big.Int).Sub(twos(3000), big.NewInt(1)))})},
		{"a line far away", glass{[]ring{beside(ofInt(share(3)))}, []int{1}}, at(flat(opposite(ofInt(share(2)))))},
		{"behind some turnings", modular().with(beside(ofInt(share(2))), 1), on(5, 1)},
		{"that is behind others, too", glass{[]ring{beside(ofInt(share(2))), beside(ofInt(share(4)))}, []int{1, 1}}, on(-7, 1)},
	} {
		m := c.mirrors(t)
		for most := range 14 {
			seen[wantBrought(t, c.name, c.glass, m, c.p, most)]++
		}
	}
	seen.least(t, 10, "home", "too many", "too big")
}

// P19.3: Steps may be left early, gone over again, and within itself.
func TestStepsAgain(t *testing.T) {
	g := modular()
	m := g.mirrors(t)
	p := at(parts(33, 7, 1, 50))
	points, _ := g.way(p, 99)
	want := numbered(points)
	all := steps(t, m, p, 99)
	for stop := range want {
		var got []told
		for n, q := range all {
			got = append(got, told{n, q})
			if n == stop {
				break
			}
		}
		if !slices.Equal(got, want[:stop+1]) {
			t.Fatalf("left at %d: %d points", stop, len(got))
		}
	}
	var outer []told
	for n, q := range all {
		outer = append(outer, told{n, q})
		if !slices.Equal(gather(all), want) {
			t.Fatal("within itself it tells other points")
		}
	}
	if !slices.Equal(outer, want) {
		t.Fatalf("about itself it tells %d points", len(outer))
	}
	atHome := steps(t, m, on(0, 2), 5)
	if !slices.Equal(gather(atHome), []told{{0, on(0, 2).point()}}) {
		t.Error("a point that is home goes on")
	}
	next, stop := iter.Pull2(all)
	defer stop()
	for _, x := range want {
		gather(atHome)
		if n, q, ok := next(); n != x.n || q != x.p || !ok {
			t.Fatalf("one by one: %d", n)
		}
	}
	if _, _, ok := next(); ok {
		t.Error("one by one: one more")
	}
}

// P19.3: no mirrors.
func TestBringWithout(t *testing.T) {
	m := glass{}.mirrors(t)
	for _, p := range spots() {
		for _, most := range []int{0, 1, api.MaxList} {
			q, w, e := m.Bring(p.point(), most)
			wantHome(t, "no mirrors", q, w, e, p)
			if l := gather(steps(t, m, p, most)); !slices.Equal(l, []told{{0, p.point()}}) {
				t.Errorf("no mirrors: %d points", len(l))
			}
		}
	}
}
