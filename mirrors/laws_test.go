package mirrors_test

import (
	"math/rand"
	"slices"
	"testing"

	"tracery/api"
	"tracery/mirrors"
	"tracery/mob"
)

// P19.8: what Bring answers is home, its word leads there, and there it stays.
func TestBroughtIsHome(t *testing.T) {
	seen := tally{}
	for _, g := range glasses() {
		m := g.mirrors(t)
		for _, p := range spots() {
			q, w, e := m.Bring(p.point(), 80)
			if e != api.OK {
				seen["not home"]++
				continue
			}
			x, e := m.Map(w...)
			wantError(t, g.name+": the word", e, api.OK)
			image, e := mob.At(x, p.point())
			want(t, g.name+": by the word", image, e, q)
			k, e := m.Behind(q)
			want(t, g.name+": behind", k, e, 0)
			again, none, e := m.Bring(q, 0)
			if again != q || len(none) != 0 || e != api.OK {
				t.Fatalf("%s: brought once more it goes on, %v, %v", g.name, none, e)
			}
			last := told{}
			for n, at := range steps(t, m, p, 80) {
				last = told{n, at}
			}
			if last != (told{len(w), q}) {
				t.Fatalf("%s: Steps ends at %d, not %d", g.name, last.n, len(w))
			}
			seen["home"]++
		}
	}
	seen.least(t, 100, "home", "not home")
}

// P19.8: a word and the same one turned round move nothing.
func TestWordsTurnedRound(t *testing.T) {
	r := rand.New(rand.NewSource(198))
	for _, g := range glasses() {
		m := g.mirrors(t)
		for range 40 {
			var word []int
			for range r.Intn(9) {
				if n := len(g.rings); n > 0 {
					word = append(word, (1+r.Intn(n))*(1-2*r.Intn(2)))
				}
			}
			back := slices.Clone(word)
			slices.Reverse(back)
			x, e := m.Map(append(word, back...)...)
			want(t, g.name, x, e, mob.One())
		}
	}
}

// P19.8: elements with more letters begin with those with fewer, each word does
// what stands beside it, and no map stands twice.
func TestElementsBegin(t *testing.T) {
	for _, g := range glasses() {
		m := g.mirrors(t)
		maps, firsts, e := m.Elements(g.deep)
		wantError(t, g.name, e, api.OK)
		met := map[api.Mob]bool{}
		for i, w := range firsts {
			x, e := m.Map(w...)
			want(t, g.name, x, e, maps[i])
			if met[x] {
				t.Fatalf("%s: %v does what was there already", g.name, w)
			}
			met[x] = true
			if i > 0 && (len(w) < len(firsts[i-1]) || len(w) == len(firsts[i-1]) && slices.Compare(w, firsts[i-1]) <= 0) {
				t.Fatalf("%s: %v behind %v", g.name, w, firsts[i-1])
			}
		}
		for most := range g.deep {
			fewer, words, e := m.Elements(most)
			wantError(t, g.name, e, api.OK)
			if !slices.Equal(fewer, maps[:len(fewer)]) || !slices.EqualFunc(words, firsts[:len(fewer)], slices.Equal) {
				t.Fatalf("%s: those of %d letters stand elsewhere", g.name, most)
			}
			if len(fewer) < len(maps) && len(firsts[len(fewer)]) <= most {
				t.Fatalf("%s: one of %d letters is left out", g.name, most)
			}
		}
	}
}

// P19.8: which orders there are, and that they are the same the other way round.
func TestOrders(t *testing.T) {
	for _, g := range glasses() {
		m := g.mirrors(t)
		for j := 1; j <= m.Len(); j++ {
			for k := 1; k <= m.Len(); k++ {
				n, e := m.Order(j, k)
				wantError(t, g.name, e, api.OK)
				if !slices.Contains([]int{0, 1, 2, 3, 4, 6}, n) {
					t.Fatalf("%s: the order %d", g.name, n)
				}
				back, e := m.Order(k, j)
				want(t, g.name, back, e, n)
				x, _ := m.Map(j, k)
				other, e := mob.Order(x)
				want(t, g.name, n, e, other)
			}
		}
	}
}

// P19.9: by Modular all of the upper half plane is brought home, and what a word
// leads to one another to the same point.
func TestModularBringsHome(t *testing.T) {
	m, e := mirrors.Modular()
	wantError(t, "Modular", e, api.OK)
	r := rand.New(rand.NewSource(199))
	for range 300 {
		p := at(parts(r.Int63n(400)-200, 1+r.Int63n(60), 1+r.Int63n(90), 1+r.Int63n(4000))).point()
		q, w, e := m.Bring(p, api.MaxList)
		wantError(t, "Bring", e, api.OK)
		k, e := m.Behind(q)
		want(t, "Behind", k, e, 0)
		var word []int
		for range r.Intn(30) {
			word = append(word, 1+r.Intn(3))
		}
		x, e := m.Map(word...)
		wantError(t, "Map", e, api.OK)
		other, e := mob.At(x, p)
		wantError(t, "At", e, api.OK)
		same, _, e := m.Bring(other, api.MaxList)
		want(t, "what a word leads there", same, e, q)
		x, e = m.Map(w...)
		wantError(t, "Map", e, api.OK)
		image, e := mob.At(x, p)
		want(t, "by the way home", image, e, q)
	}
}

// P19.9
func TestModularOrders(t *testing.T) {
	m, _ := mirrors.Modular()
	for _, c := range [][3]int{{1, 3, 2}, {3, 1, 2}, {2, 3, 3}, {3, 2, 3}, {1, 2, 0}, {2, 1, 0}, {1, 1, 1}, {2, 2, 1}, {3, 3, 1}} {
		n, e := m.Order(c[0], c[1])
		want(t, "Order", n, e, c[2])
	}
}

// The chapter's examples.
func TestExamples(t *testing.T) {
	m, _ := mirrors.Modular()
	c, side, e := m.Mirror(3)
	want(t, "Mirror(3)", c, e, unit().circle())
	want(t, "Mirror(3)", side, e, 1)
	for _, x := range []struct {
		p spot
		k int
	}{{on(0, 2), 0}, {at(parts(1, 4, 2, 1)), 0}, {on(-1, 3), 1}, {at(parts(0, 1, 1, 2)), 3}} {
		k, e := m.Behind(x.p.point())
		want(t, "Behind", k, e, x.k)
	}
	q, w, e := m.Bring(at(parts(0, 1, 1, 2)).point(), 9)
	wantHome(t, "1/2i", q, w, e, on(0, 2), 3)
	q, w, e = m.Bring(at(parts(-1, 3, 2, 1)).point(), 9)
	wantHome(t, "-1/3+2i", q, w, e, at(parts(1, 3, 2, 1)), 1)
	q, w, e = m.Bring(on(2, 1).point(), 9)
	wantHome(t, "2+1i", q, w, e, on(0, 1), 2, 1, 2)
	q, w, e = m.Bring(on(2, 1).point(), 1)
	wantNoHome(t, "2+1i by one turning", q, w, e, api.ErrMany)
	for _, word := range [][]int{{1, 1}, {}} {
		x, e := m.Map(word...)
		want(t, "Map", x, e, mob.One())
	}
	x, e := m.Map(4)
	wantNone(t, "Map(4)", x, e, api.ErrArg)
	maps, firsts, e := m.Elements(1)
	all, _ := modular().elements(1)
	wantElements(t, "Elements(1)", maps, firsts, e, all, api.OK)
	if maps, _, _ = m.Elements(2); len(maps) != 9 {
		t.Errorf("Elements(2): %d", len(maps))
	}
}
