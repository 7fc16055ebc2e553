package tiles_test

import (
	"slices"
	"testing"

	"tracery/api"
	"tracery/tiles"
)

// spoil writes over a list and the spare room behind it.
func spoil[T any](l []T) {
	var zero T
	for i := range l[:cap(l)] {
		l[:cap(l)][i] = zero
	}
}

// roomy answers the list with spare room behind it, in which something stands.
func roomy[T any](l []T) []T { return slices.Concat(l, l)[:len(l)] }

// P18.1 to P18.5: what is handed in stays, spare room included.
func TestNothingIsChanged(t *testing.T) {
	d := modular().tiling()
	given := api.Tiling{Sides: roomy(d.Sides), Maps: roomy(d.Maps)}
	way := roomy([]int{1, -1, 3, 1, 2})
	p := on(7, 1).point()
	tiles.Check(given.Sides...)
	tiles.Where(p, given.Sides...)
	tiles.Beyond(p, given.Sides...)
	tiles.Image(swap().mob(), given.Sides...)
	tiles.Image(stretch(flat(ofInt(top()))).mob(), given.Sides...)
	tiles.Bring(given, p, 9)
	tiles.Bring(given, p, 2)
	stepsOf(given, p)
	tiles.Tile(given, way...)
	tiles.Tile(given)
	if !slices.Equal(given.Sides[:6], slices.Concat(d.Sides, d.Sides)) || !slices.Equal(given.Maps[:6], slices.Concat(d.Maps, d.Maps)) {
		t.Error("a tiling has changed")
	}
	if !slices.Equal(way[:10], []int{1, -1, 3, 1, 2, 1, -1, 3, 1, 2}) {
		t.Error("a way has changed")
	}
}

// P18.3: Steps keeps nothing of the tiling that is handed in.
func TestStepsKeepNothing(t *testing.T) {
	for _, d := range deals() {
		given := d.tiling()
		p := on(5, 3)
		all, wanted := tiles.Steps(given, p.point()), d.steps(p, api.MaxList)
		check := func() {
			t.Helper()
			var got []told
			for k, q := range all {
				got = append(got, told{k, q})
				if len(got) == 3 {
					spoil(given.Sides)
					spoil(given.Maps)
				}
			}
			if !slices.Equal(got, wanted) {
				t.Fatalf("%s: %d steps, want %d", d.name, len(got), len(wanted))
			}
		}
		check()
		spoil(given.Sides)
		spoil(given.Maps)
		check()
	}
}

// P18.2, P18.3, P18.5: what is told is new each time, and shares nothing with
// what was handed in.
func TestAnswersAreNew(t *testing.T) {
	d := modular()
	for range 2 {
		w := tiles.Whole()
		if !slices.Equal(w.Sides, d.tiling().Sides) || !slices.Equal(w.Maps, d.tiling().Maps) {
			t.Fatal("the whole matrices' tiling is spoilt")
		}
		h, e := tiles.Bring(w, on(7, 1).point(), 9)
		wantLanding(t, "7 + i", h, e, landing{on(0, 1), slide(in(-7, 0)), []int{1, 1, 1, 1, 1, 1, 1}})
		spoil(h.Way)
		given := roomy(w.Sides)
		one, e := tiles.Image(still().mob(), given...)
		wantSides(t, "Image", one, e, d.sides...)
		two, e := tiles.Tile(api.Tiling{Sides: given, Maps: w.Maps})
		wantSides(t, "Tile", two, e, d.sides...)
		three, e := tiles.Tile(api.Tiling{Sides: given, Maps: w.Maps})
		spoil(one)
		spoil(two)
		wantSides(t, "Tile again", three, e, d.sides...)
		if !slices.Equal(given[:6], slices.Concat(w.Sides, w.Sides)) {
			t.Fatal("what was handed in is spoilt")
		}
		spoil(w.Sides)
		spoil(w.Maps)
	}
}
