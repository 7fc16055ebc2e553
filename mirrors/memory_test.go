package mirrors_test

import (
	"slices"
	"testing"

	"tracery/api"
	"tracery/mirrors"
)

// spoil writes over a list and the spare room behind it.
func spoil[T any](l []T) {
	var zero T
	for i := range l[:cap(l)] {
		l[:cap(l)][i] = zero
	}
}

// roomy answers the list with spare room behind it, in which something stands.
func roomy[T any](l []T) []T { return slices.Concat(l, l)[:len(l)] }

// P19.1, P19.4: what is handed in stays, spare room included.
func TestNothingIsChanged(t *testing.T) {
	g := modular()
	circles, sides := roomy(g.circles()), roomy(g.sides)
	m, _ := mirrors.New(circles, sides)
	mirrors.New(circles, sides[:2])
	word := roomy([]int{1, -2, 3, 2})
	m.Map(word...)
	if !slices.Equal(circles[:6], slices.Concat(g.circles(), g.circles())) || !slices.Equal(sides[:6], slices.Concat(g.sides, g.sides)) {
		t.Error("circles or sides have changed")
	}
	if !slices.Equal(word[:8], []int{1, -2, 3, 2, 1, -2, 3, 2}) {
		t.Error("a word has changed")
	}
}

// P19.1: what is handed in is not kept.
func TestNothingIsKept(t *testing.T) {
	for _, g := range glasses() {
		circles, sides := roomy(g.circles()), roomy(g.sides)
		m, e := mirrors.New(circles, sides)
		wantError(t, g.name, e, api.OK)
		spoil(circles)
		spoil(sides)
		wantMirrors(t, g.name, m, g.glass)
		wantBrought(t, g.name, g.glass, m, on(5, 3), 9)
		all, _ := g.elements(2)
		maps, firsts, e := m.Elements(2)
		wantElements(t, g.name, maps, firsts, e, all, api.OK)
	}
}

// P19.3, P19.5, P19.6: what is told is new each time, and within itself.
func TestAnswersAreNew(t *testing.T) {
	m := modular().mirrors(t)
	all, _ := modular().elements(4)
	orbit, _ := modular().orbit(on(1, 2), 3)
	walls, _ := modular().walls(3)
	for range 2 {
		_, w, e := m.Bring(on(2, 1).point(), 9)
		wantList(t, "Bring", w, e, []int{2, 1, 2}, api.OK)
		spoil(w)
		maps, firsts, e := m.Elements(4)
		wantElements(t, "Elements", maps, firsts, e, all, api.OK)
		for i := range firsts {
			if !slices.Equal(firsts[i], all[i].word) {
				t.Fatalf("the word %d is spoilt by another one", i)
			}
			spoil(firsts[i])
		}
		spoil(maps)
		spoil(firsts)
		l, e := m.Orbit(on(1, 2).point(), 3)
		wantList(t, "Orbit", l, e, orbit, api.OK)
		spoil(l)
		c, e := m.Walls(3)
		wantList(t, "Walls", c, e, walls, api.OK)
		spoil(c)
		wantMirrors(t, "Modular", m, modular())
	}
	one, _ := mirrors.Modular()
	two, _ := mirrors.Modular()
	if one == two {
		t.Error("Modular answers one object twice")
	}
}

// P19.2 to P19.6: no call changes what a later one tells.
func TestCallsLeaveNothing(t *testing.T) {
	m := modular().mirrors(t)
	for range 2 {
		m.Elements(40)
		m.Walls(20)
		m.Bring(on(5000, 1).point(), api.MaxList)
		m.Orbit(on(0, 1).point(), -1)
		m.Map(1, 2, 9)
		wantMirrors(t, "Modular", m, modular())
		q, w, e := m.Bring(on(2, 1).point(), 3)
		wantHome(t, "2+1i", q, w, e, on(0, 1), 2, 1, 2)
		n, e := m.Order(2, 3)
		want(t, "Order", n, e, 3)
	}
}
