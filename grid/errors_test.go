package grid_test

import (
	"math"
	"testing"

	"tracery/api"
	"tracery/grid"
)

// nothing are grids that are not there: nil, and zero ones that no call made.
func nothing() []*grid.Grid {
	var refused *grid.Grid
	refused, _ = grid.New(in(0, 0).gauss(), in(1, 0).gauss(), in(2, 0).gauss(), 1, 1)
	short, _ := grid.Of(1, 1)
	return []*grid.Grid{nil, {}, new(grid.Grid), refused, short}
}

// P26.2 to P26.6: ErrNil ahead of all else, and zero answers.
func TestNothing(t *testing.T) {
	maps := append(wrongMaps()[:20], still().mob(), charted(0, 1, 1, 0).mob(), stretch(along(ofInt(top()))).mob())
	places := [][2]int{{0, 0}, {1, 1}, {-1, 0}, {0, -1}, {64, 64}, {65, 0}, {math.MaxInt, math.MinInt}}
	made := unit().grid(t)
	for _, g := range nothing() {
		if w, h := g.Size(); w != 0 || h != 0 {
			t.Errorf("nothing is %d by %d", w, h)
		}
		for _, x := range places {
			p, e := g.Point(x[0], x[1])
			wantNone(t, "Point of nothing", p, e, api.ErrNil)
			l, e := g.Corners(x[0], x[1])
			wantNone(t, "Corners of nothing", l, e, api.ErrNil)
			p, e = g.Ratio(x[0], x[1])
			wantNone(t, "Ratio of nothing", p, e, api.ErrNil)
			c, e := g.Circle(x[0], x[1])
			wantNone(t, "Circle of nothing", c, e, api.ErrNil)
			for _, y := range places {
				part, e := g.Part(x[0], x[1], y[0], y[1])
				wantNoGrid(t, "Part of nothing", part, e, api.ErrNil)
			}
		}
		if p, is := g.Even(); p != (api.Point{}) || is {
			t.Errorf("nothing is even, %s", brief(p))
		}
		for _, m := range maps {
			image, e := g.Image(m)
			wantNoGrid(t, "Image of nothing", image, e, api.ErrNil)
			if l, e := g.Floats(m); l != nil || e != api.ErrNil {
				t.Errorf("Floats of nothing: %d of them, %v", len(l), e)
			}
		}
		if g.Turn() != nil {
			t.Error("nothing, turned, is something")
		}
		for range g.All() {
			t.Error("nothing has a point")
		}
		for _, o := range append(nothing(), made) {
			m, e := g.Map(o)
			wantNone(t, "Map of nothing", m, e, api.ErrNil)
			m, e = o.Map(g)
			wantNone(t, "Map to nothing", m, e, api.ErrNil)
		}
	}
}

// P26.3: no such square, ahead of what its corners would be.
func TestNoSquareAheadOfItsRatio(t *testing.T) {
	made := listed(1, 1, on(0, 0), on(0, 0), on(0, 0), on(1, 0)).grid(t)
	p, e := made.Ratio(0, 0)
	wantNone(t, "Ratio", p, e, api.ErrSame)
	c, e := made.Circle(0, 0)
	wantNone(t, "Circle", c, e, api.ErrNone)
	for _, x := range [][2]int{{1, 0}, {0, 1}, {-1, 0}, {0, -1}} {
		p, e := made.Ratio(x[0], x[1])
		wantNone(t, "Ratio of no square", p, e, api.ErrNone)
	}
}

// P26.1 to P26.6: what was refused has changed nothing.
func TestRefusedChangesNothing(t *testing.T) {
	g := laid(in(1, 2), in(1, 1), in(0, 3), 3, 2)
	made, other := g.grid(t), g.grid(t)
	made.Point(9, 9)
	made.Corners(-1, 0)
	made.Ratio(3, 0)
	made.Circle(0, 2)
	made.Image(api.Mob{})
	made.Image(stretch(along(ofInt(top()))).mob())
	made.Part(0, 0, 4, 1)
	made.Part(0, 0, 0, 1)
	made.Floats(api.Mob{})
	made.Floats(stretch(along(ofInt(top()))).mob())
	made.Map(nil)
	made.Map(made.Turn())
	wantGrid(t, "a grid behind refusals", made, api.OK, g)
	if !made.Same(other) {
		t.Error("a grid behind refusals is another one")
	}
}
