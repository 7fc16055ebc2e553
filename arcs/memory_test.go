package arcs_test

import (
	"math/rand"
	"slices"
	"strings"
	"testing"

	"tracery/api"
	"tracery/arcs"
)

// P29.5 to P29.7: what is handed in stays, spare room included, and is not kept;
// what is told is new each time, spare room included.
func TestListsStay(t *testing.T) {
	r := rand.New(rand.NewSource(318))
	spoil := func(l []api.Arc) {
		for k := range l[:cap(l)] {
			l[:cap(l)][k] = api.Arc{Kind: 77}
		}
	}
	for n := range 12 {
		room := make([]api.Arc, n+5)
		for k := range room {
			room[k] = chooser(few).arc(r)
		}
		given, kept := room[:n], slices.Clone(room)
		m := mapped(1, 2i, 0, 1)
		l, e := arcs.Images(m, given...)
		want := slices.Clone(l)
		arcs.Box(given...)
		s, _ := arcs.Text(given...)
		if e != api.OK || !slices.EqualFunc(room, kept, likeArcs) {
			t.Fatal("what was handed in is changed", e)
		}
		spoil(l)
		if !slices.EqualFunc(room, kept, likeArcs) {
			t.Fatal("the answer is what was handed in")
		}
		again, e := arcs.Images(m, given...)
		wantArcs(t, "Images again", again, e, want, api.OK)
		for k := range room {
			room[k] = api.Arc{Kind: 78}
		}
		wantArcs(t, "Images, its arcs spoilt", again, e, want, api.OK)

		first, e := arcs.Read(s)
		wantArcs(t, "Read", first, e, kept[:n], api.OK)
		spoil(first)
		second, e := arcs.Read(s)
		wantArcs(t, "Read again", second, e, kept[:n], api.OK)
	}
}

// A map that moves nothing answers new memory too.
func TestImagesByOneAreNew(t *testing.T) { // P29.5
	given := []api.Arc{straight(0, 2), straight(1i, 3i)}
	l, e := arcs.Images(still(), given...)
	if e != api.OK || len(l) != 2 || &l[0] == &given[0] {
		t.Fatal(l, e)
	}
	l[0], l[1] = api.Arc{}, api.Arc{}
	wantArcs(t, "what was handed in", given, api.OK, []api.Arc{straight(0, 2), straight(1i, 3i)}, api.OK)
}

// A refused call leaves nothing behind.
func TestRefusalsChangeNothing(t *testing.T) { // P29.5, P29.7
	l := []api.Arc{straight(0, 1), {}, half()}
	kept := slices.Clone(l)
	arcs.Images(still(), l...)
	arcs.Box(l...)
	arcs.Text(l...)
	arcs.Read(strings.Repeat("x\n", 9))
	wantArcs(t, "the list", l, api.OK, kept, api.OK)
	s, e := arcs.Text(half())
	if s != textOf(half()) || e != api.OK {
		t.Error(s, e)
	}
}
