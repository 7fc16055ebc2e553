package nets_test

import (
	"math"
	"testing"

	"tracery/api"
	"tracery/nets"
)

// nothing are nets that are not there: nil, and zero ones that no call made.
func nothing() []*nets.Net {
	var none *nets.Net
	refused, _ := nets.New(api.NetSides{})
	return []*nets.Net{nil, none, {}, new(nets.Net), refused}
}

// P27.3, P27.4: ErrNil ahead of all else, and zero answers.
func TestNothing(t *testing.T) {
	maps := append(wrongMaps()[:20], still().mob(), charted(0, 1, 1, 0).mob(), stretch(along(ofInt(top()))).mob())
	places := [][2]int{{0, 0}, {1, 1}, {-1, 0}, {0, -1}, {64, 64}, {65, 0}, {math.MaxInt, math.MinInt}}
	made := unit().mesh(t).net(t)
	for _, n := range nothing() {
		if w, h := n.Size(); w != 0 || h != 0 {
			t.Errorf("nothing is %d by %d", w, h)
		}
		for _, x := range places {
			p, e := n.At(x[0], x[1])
			wantNone(t, "At of nothing", p, e, api.ErrNil)
			l, e := n.Square(x[0], x[1])
			wantNone(t, "Square of nothing", l, e, api.ErrNil)
			z, e := n.Label(x[0], x[1])
			wantNone(t, "Label of nothing", z, e, api.ErrNil)
		}
		if s, e := n.Sides(); s.A != nil || s.B != nil || s.Row != nil || s.Column != nil || e != api.ErrNil {
			t.Errorf("Sides of nothing: %v", e)
		}
		for range n.All() {
			t.Error("nothing has a corner")
		}
		for _, m := range maps {
			image, e := n.Image(m)
			wantNoNet(t, "Image of nothing", image, e, api.ErrNil)
		}
		turned, e := n.Turned()
		wantNoNet(t, "nothing, turned", turned, e, api.ErrNil)
		for _, o := range nothing() {
			if !n.Same(o) {
				t.Error("two that are not there are unlike")
			}
		}
		if n.Same(made) || made.Same(n) {
			t.Error("nothing is a net")
		}
	}
}

// P27.3, P27.4: what was refused has changed nothing.
func TestRefusedChangesNothing(t *testing.T) {
	s := stretched(square(3, 2), ofInt(twos(8100)))
	made := s.mesh(t).net(t)
	made.At(9, 9)
	made.Square(0, 1)
	made.Label(1, 3)
	made.Image(api.Mob{})
	made.Image(stretch(along(ofInt(top()))).mob())
	made.Image(stretch(along(ofInt(twos(90)))).turned().mob())
	made.Same(nil)
	wantNet(t, "a net behind refusals", made, api.OK, s.mesh(t))
}
