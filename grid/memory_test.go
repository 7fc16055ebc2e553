package grid_test

import (
	"slices"
	"testing"

	"tracery/api"
	"tracery/grid"
)

// P26.1: what is handed in stays, spare room included, and is not kept.
func TestPointsAreNotKept(t *testing.T) {
	g := laid(in(0, 0), in(1, 1), in(-1, 2), 2, 1)
	l := g.points()
	roomy := slices.Concat(l, l)
	made, e := grid.Of(2, 1, roomy[:len(l)]...)
	wantGrid(t, "Of", made, e, g)
	if !slices.Equal(roomy, slices.Concat(l, l)) {
		t.Error("the list has changed")
	}
	clear(roomy)
	wantGrid(t, "Of, its list spoilt", made, api.OK, g)
}

// P26.2 to P26.6: no call changes the grid, or that which is handed in.
func TestCallsChangeNothing(t *testing.T) {
	g := laid(in(0, 0), in(1, 1), in(-1, 2), 3, 2)
	made := g.grid(t)
	other := made.Turn()
	made.Size()
	made.Point(1, 1)
	for range made.All() {
	}
	made.Corners(0, 1)
	made.Ratio(0, 1)
	made.Even()
	made.Circle(2, 1)
	image, _ := made.Image(charted(0, 1, 1, 0).mob())
	part, _ := made.Part(1, 0, 2, 2)
	made.Floats(charted(0, 1, 1, 0).mob())
	made.Same(other)
	made.Map(image)
	made.Map(other)
	image.Map(made)
	wantGrid(t, "a grid that was asked", made, api.OK, g)
	wantGrid(t, "its turned one", other, api.OK, g.turned())
	wantGrid(t, "its image", image, api.OK, g.image(charted(0, 1, 1, 0)))
	wantGrid(t, "its part", part, api.OK, g.part(1, 0, 2, 2))
}

// P26.5: the list is new each time.
func TestFloatsAreNew(t *testing.T) {
	g, m := laid(in(0, 0), in(1, 1), in(-1, 2), 3, 2), charted(0, 1, 1, 0)
	made := g.grid(t)
	wanted, _ := g.floats(m)
	for range 3 {
		got, e := made.Floats(m.mob())
		if e != api.OK || !slices.EqualFunc(got, wanted, likePoints) {
			t.Fatalf("Floats: %v, %v", got, e)
		}
		clear(got[:cap(got)])
		for k := range got[:cap(got)] {
			got[:cap(got)][k] = api.FPoint{Z: 99}
		}
	}
	wantGrid(t, "the grid", made, api.OK, g)
}

// P26.4: the parts, the turned one and the image are grids of their own.
func TestGridsAreNew(t *testing.T) {
	made := unit().grid(t)
	whole, e := made.Part(0, 0, 2, 1)
	wantGrid(t, "all of it", whole, e, unit())
	image, e := made.Image(still().mob())
	wantGrid(t, "its image by what moves nothing", image, e, unit())
	back := made.Turn().Turn().Turn().Turn()
	for _, g := range []*grid.Grid{whole, image, back} {
		if g == made || !g.Same(made) {
			t.Error("not a grid of its own")
		}
		*g = grid.Grid{} // as a caller may do
	}
	wantGrid(t, "the grid", made, api.OK, unit())
}
