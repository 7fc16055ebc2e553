package nets_test

import (
	"testing"

	"tracery/api"
	"tracery/nets"
)

// The examples of the chapter.

func TestExamplesOfCorner(t *testing.T) { // P27.1
	zero, one, up := on(0, 0).point(), on(1, 0).point(), on(0, 1).point()
	p, e := nets.Corner(zero, one, up, in(-1, 0).gauss())
	want(t, "Corner(0, 1, i, -1)", p, e, on(1, 1).point())
	p, e = nets.Corner(zero, one, up, in(1, 0).gauss())
	wantNone(t, "Corner(0, 1, i, 1)", p, e, api.ErrArg)
	p, e = nets.Corner(zero, zero, up, in(-1, 0).gauss())
	wantNone(t, "Corner(0, 0, i, -1)", p, e, api.ErrNet)
}

func TestExamplesOfNet(t *testing.T) { // P27.2, P27.3
	n, e := nets.New(api.NetSides{
		A: []api.Gauss{in(1, 0).gauss(), in(1, 0).gauss()}, B: []api.Gauss{in(-1, 0).gauss(), in(-1, 0).gauss()},
		Row: points([]spot{on(0, 0), on(1, 0), on(2, 0)}), Column: points([]spot{on(0, 0), on(0, 1), on(0, 2)}),
	})
	if e != api.OK {
		t.Fatal(e)
	}
	p, e := n.At(2, 2)
	want(t, "At(2, 2)", p, e, on(2, 2).point())
	l, e := n.Square(1, 1)
	want(t, "Square(1, 1)", l, e, [4]api.Point{on(0, 0).point(), on(1, 0).point(), on(1, 1).point(), on(0, 1).point()})
	z, e := n.Label(1, 1)
	want(t, "Label(1, 1)", z, e, in(-1, 0).gauss())
	p, e = n.At(3, 0)
	wantNone(t, "At(3, 0)", p, e, api.ErrNone)
	if w, h := n.Size(); w != 2 || h != 2 {
		t.Errorf("%d by %d", w, h)
	}
}

func TestExamplesOfCube(t *testing.T) { // P27.5
	c := block{on(0, 0), on(1, 0), on(0, 1), on(-1, 0), in(1, 0), in(-1, 0), in(2, 0)}.cube()
	l, e := nets.Faces(c)
	p, f := nets.Last(c)
	if e != api.OK || f != api.OK || l != [3]api.Point{p, p, p} {
		t.Errorf("Faces: %s, %v; Last: %s, %v", brief(l), e, brief(p), f)
	}
}
