package grid_test

import (
	"testing"

	"tracery/api"
	"tracery/grid"
)

// The examples of the chapter.

func TestExamplesOfNew(t *testing.T) { // P26.1
	for _, x := range []struct {
		up   num
		w    int
		want api.Errno
	}{{in(2, 0), 1, api.ErrFlat}, {in(0, 1), 0, api.ErrArg}, {in(0, 1), 65, api.ErrLong}} {
		got, e := grid.New(in(0, 0).gauss(), in(1, 0).gauss(), x.up.gauss(), x.w, 1)
		wantNoGrid(t, "New", got, e, x.want)
	}
	got, e := grid.Of(1, 1, on(0, 0).point(), on(1, 0).point())
	wantNoGrid(t, "Of two points", got, e, api.ErrArg)
	got, e = grid.Of(1, 1, on(0, 0).point(), on(0, 0).point(), on(0, 0).point(), on(1, 0).point())
	if e != api.OK {
		t.Fatal(e)
	}
	p, e := got.Ratio(0, 0)
	wantNone(t, "the ratio of three that are the same", p, e, api.ErrSame)
}

func TestExamplesOfSquares(t *testing.T) { // P26.2, P26.3
	q, e := grid.New(in(0, 0).gauss(), in(1, 0).gauss(), in(0, 1).gauss(), 2, 1)
	wantGrid(t, "New", q, e, listed(2, 1, on(0, 0), on(1, 0), on(2, 0), on(0, 1), on(1, 1), on(2, 1)))
	p, e := q.Point(2, 1)
	want(t, "Point(2, 1)", p, e, on(2, 1).point())
	p, e = q.Point(3, 0)
	wantNone(t, "Point(3, 0)", p, e, api.ErrNone)
	l, e := q.Corners(1, 0)
	want(t, "Corners(1, 0)", l, e, [4]api.Point{on(1, 0).point(), on(2, 0).point(), on(2, 1).point(), on(1, 1).point()})
	p, e = q.Ratio(0, 0)
	want(t, "Ratio(0, 0)", p, e, on(-1, 0).point())
	if p, is := q.Even(); p != on(-1, 0).point() || !is {
		t.Errorf("Even is %s, %v", brief(p), is)
	}
	c, e := q.Circle(0, 0)
	want(t, "Circle(0, 0)", c, e, about(parts(1, 2, 1, 2), rat(1, 2)).circle())
}

func TestExamplesOfMoves(t *testing.T) { // P26.4
	q := unit().grid(t)
	if w, h := q.Turn().Size(); w != 1 || h != 2 {
		t.Errorf("turned it is %d by %d", w, h)
	}
	p, e := q.Turn().Point(0, 0)
	want(t, "the turned one's first point", p, e, on(2, 0).point())
	o, e := q.Image(charted(0, 1, 1, 0).mob())
	if e != api.OK {
		t.Fatal(e)
	}
	p, e = o.Point(0, 0)
	want(t, "the image's first point", p, e, far().point())
	p, e = o.Ratio(0, 0)
	want(t, "the image's first ratio", p, e, on(-1, 0).point())
}
