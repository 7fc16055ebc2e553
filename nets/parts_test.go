package nets_test

import (
	"math/big"
	"testing"

	"tracery/api"
	"tracery/nets"
)

func TestSquare(t *testing.T) { // P27.3
	for _, n := range meshes() {
		made, w, h := n.net(t), len(n.a), len(n.b)
		for j := 1; j <= h; j++ {
			for i := 1; i <= w; i++ {
				l := n.four(i, j)
				got, e := made.Square(i, j)
				want(t, "Square", got, e, [4]api.Point{l[0].point(), l[1].point(), l[2].point(), l[3].point()})
			}
		}
		beyond(1, w, h, func(i, j int) {
			got, e := made.Square(i, j)
			wantNone(t, "Square where there is none", got, e, api.ErrNone)
		})
	}
}

func TestAt(t *testing.T) { // P27.3
	for _, n := range append(meshes()[:60], square(64, 64).mesh(t)) {
		made, w, h := n.net(t), len(n.a), len(n.b)
		wantNet(t, "a net", made, api.OK, n) // asks At of all corners
		beyond(0, w, h, func(i, j int) {
			got, e := made.At(i, j)
			wantNone(t, "At where there is none", got, e, api.ErrNone)
		})
	}
}

func TestLabel(t *testing.T) { // P27.3
	for _, n := range meshes() {
		made, w, h := n.net(t), len(n.a), len(n.b)
		for j := 1; j <= h; j++ {
			for i := 1; i <= w; i++ {
				got, e := made.Label(i, j)
				want(t, "Label", got, e, n.ratio(i, j).gauss())
			}
		}
		beyond(1, w, h, func(i, j int) {
			got, e := made.Label(i, j)
			wantNone(t, "Label where there is no square", got, e, api.ErrNone)
		})
	}
}

// P27.3: both sides of the bound; a square that is none, ahead of a ratio that is
// too long.
func TestLabelAtTheBound(t *testing.T) {
	seen := tally{}
	for _, x := range []*big.Rat{ofInt(top()), ofInt(twos(8191)), ofInt(more(twos(8191), -1)), under(top()), under(twos(8191)), ratio(top(), more(top(), -1))} {
		for _, y := range []num{in(1, 0), in(0, 1), parts(1, 2, 0, 1), in(2, 0), in(1, 1), along(ofInt(top())), in(-1, 0)} {
			a, b := along(x), y.times(in(0, -1))
			// With infinity ahead; the other two are chosen so that 0 comes out.
			s := edges{a: []num{a}, b: []num{b}, row: []spot{far(), at(b)}, column: []spot{far(), at(a)}}
			n, e := nets.New(s.sides())
			wantNet(t, "New", n, e, mesh{s.a, s.b, [][]spot{{far(), at(b)}, {at(a), on(0, 0)}}})
			got, e := n.Label(1, 1)
			if k := a.over(b); k.fits() {
				seen["told"]++
				want(t, "Label", got, e, k.gauss())
			} else {
				seen["too big"]++
				wantNone(t, "Label that is too big", got, e, api.ErrBig)
			}
			got, e = n.Label(2, 1)
			wantNone(t, "Label of no square", got, e, api.ErrNone)
			got, e = n.Label(1, 0)
			wantNone(t, "Label of no square", got, e, api.ErrNone)
		}
	}
	seen.least(t, 5, "told", "too big")
}

func TestSides(t *testing.T) { // P27.3
	for _, n := range meshes() {
		got, e := n.net(t).Sides()
		wantSides(t, "a net", got, e, n.edges().sides())
		again, e := nets.New(got)
		wantNet(t, "New of Sides", again, e, n)
		if !again.Same(n.net(t)) {
			t.Fatal("New of Sides is another net")
		}
	}
}

func TestSize(t *testing.T) { // P27.3
	for _, x := range [][2]int{{1, 1}, {2, 5}, {5, 2}, {64, 1}, {1, 64}, {64, 64}} {
		if w, h := square(x[0], x[1]).mesh(t).net(t).Size(); w != x[0] || h != x[1] {
			t.Errorf("%v is %d by %d", x, w, h)
		}
	}
}

func TestAll(t *testing.T) { // P27.3
	n := square(3, 2).mesh(t)
	all := n.net(t).All()
	count := func(leave int) int {
		k := 0
		for place, p := range all {
			if place != [2]int{k % 4, k / 4} || p != on(int64(k%4), int64(k/4)).point() {
				t.Fatalf("%v is %s", place, brief(p))
			}
			if k++; k == leave {
				break
			}
		}
		return k
	}
	for leave := 1; leave <= 12; leave++ { // left at each place, and gone over again
		if k := count(leave); k != leave {
			t.Errorf("left behind %d, gone on to %d", leave, k)
		}
		if k := count(0); k != 12 {
			t.Errorf("%d corners", k)
		}
	}
	k := 0
	for place := range all { // within itself
		for inner := range all {
			if k++; inner == place {
				break
			}
		}
	}
	if k != 12*13/2 {
		t.Errorf("%d steps", k)
	}
}
