package nets_test

import (
	"math/big"
	"math/rand"
	"testing"

	"tracery/api"
	"tracery/nets"
)

func wantImage(t *testing.T, seen tally, n mesh, m chart) {
	t.Helper()
	got, e := n.net(t).Image(m.mob())
	wanted := n.image(m)
	if !wanted.fits() {
		seen["too big"]++
		wantNoNet(t, "Image that is too big", got, e, api.ErrBig)
		return
	}
	seen["told"]++
	for j, row := range n.rows {
		for i, p := range row {
			switch q := wanted.rows[j][i]; {
			case q.inf && !p.inf:
				seen["to infinity"]++
			case p.inf && !q.inf:
				seen["from infinity"]++
			}
		}
	}
	wantNet(t, "Image", got, e, wanted)
}

func TestImage(t *testing.T) { // P27.4
	seen := tally{}
	for n, x := range meshes() {
		for k, m := range charts() {
			if n < 20 || (n+k)%5 == 0 {
				wantImage(t, seen, x, m)
			}
		}
	}
	seen.least(t, 50, "told", "to infinity", "from infinity")
}

// P27.4: labels are turned with the map, whatever they are.
func TestImageTurnsLabels(t *testing.T) {
	s := square(2, 1)
	s.a, s.b = []num{in(1, 1), parts(1, 2, -1, 3)}, []num{in(0, 2)}
	n := s.mesh(t)
	for _, m := range []chart{still(), still().turned(), charted(0, 1, 1, 0), charted(0, 1, 1, 0).turned()} {
		made, e := n.net(t).Image(m.mob())
		wantNet(t, "Image", made, e, n.image(m))
		z, e := made.Label(2, 1)
		k := s.a[1].over(s.b[0])
		if m.turns {
			k = k.conj()
		}
		want(t, "Label", z, e, k.gauss())
	}
}

// P27.4: both sides of the bound; corners that are too big but for the last one,
// or the first one; maps and corners that are longer than what comes of them.
func TestImageAtTheBound(t *testing.T) {
	seen := tally{}
	for _, s := range []edges{square(1, 1), square(2, 1), square(1, 3), square(2, 2).image(slide(in(-2, -1)))} {
		n := s.mesh(t)
		for _, x := range []*big.Rat{ofInt(top()), ofInt(twos(8191)), ofInt(more(twos(8191), -1)), ofInt(new(big.Int).Rsh(top(), 2)), under(top()), under(twos(8191)), ratio(more(twos(8191), -1), twos(8191))} {
			for _, m := range []chart{stretch(along(x)), stretch(upward(x)), slide(along(x)), slide(num{x, opposite(x)}), {a: along(x), b: in(1, 0), c: in(1, 0), d: in(0, 3)}, {a: in(0, 0), b: along(x), c: in(1, 0), d: in(0, 3)}, {a: in(0, 0), b: in(1, 0), c: in(1, 0), d: along(x)}} {
				wantImage(t, seen, n, m)
				wantImage(t, seen, n, m.turned())
			}
		}
	}
	seen.least(t, 50, "told", "too big")
	r := rand.New(rand.NewSource(2740))
	for range 3 {
		there := slide(longNum(r, 1000))
		far := square(2, 1).mesh(t).image(there)
		wantImage(t, seen, far, there.inverse().formed())
		there = chart{a: num{ofInt(full(r, 300)), none()}, b: in(1, 2), c: in(1, 0), d: num{ofInt(full(r, 300)), ofInt(full(r, 300))}}
		far = square(1, 2).mesh(t).image(there)
		wantImage(t, seen, far, there.inverse().formed())
	}
	wantImage(t, seen, square(1, 1).mesh(t), chart{a: longNum(r, 1024), b: longNum(r, 1024), c: in(1, 0), d: longNum(r, 1024)})
}

// P27.4: ErrArg, ahead of images that would be too big.
func TestImageRefuses(t *testing.T) {
	nets := []mesh{unit().mesh(t), stretched(square(1, 1), ofInt(twos(8190))).mesh(t)}
	for _, m := range wrongMaps() {
		for _, n := range nets {
			got, e := n.net(t).Image(m)
			wantNoNet(t, "Image by a wrong map", got, e, api.ErrArg)
		}
	}
	great := along(ofInt(top()))
	for _, m := range []chart{{a: great, b: great, c: in(1, 0), d: in(1, 0)}, {a: great, b: in(1, 0), c: in(1, 0), d: along(under(top()))}} { // both are flat
		got, e := nets[1].net(t).Image(m.mob())
		wantNoNet(t, "Image by a flat map", got, e, api.ErrArg)
	}
}

func TestTurned(t *testing.T) { // P27.4, P27.6
	for _, n := range append(meshes(), square(64, 3).mesh(t)) {
		made := n.net(t)
		got, e := made.Turned()
		wantNet(t, "Turned", got, e, n.turned())
		again, e := nets.New(n.turned().edges().sides()) // it is a net
		if e != api.OK || !again.Same(got) {
			t.Fatalf("New of the turned one's sides: %v", e)
		}
		back, e := got.Turned()
		wantNet(t, "Turned twice", back, e, n)
		if !back.Same(made) {
			t.Fatal("turned twice it is another one")
		}
	}
}

func TestSame(t *testing.T) { // P27.4
	l := meshes()
	var made, again []*nets.Net
	for _, n := range l {
		made, again = append(made, n.net(t)), append(again, n.net(t))
	}
	for k, n := range l {
		for j, o := range l {
			if wanted := n.alike(o); made[k].Same(again[j]) != wanted {
				t.Fatalf("Same is %v", !wanted)
			}
		}
	}
}

func likeNums(l, m []num) bool {
	if len(l) != len(m) {
		return false
	}
	for k := range l {
		if !l[k].minus(m[k]).zero() {
			return false
		}
	}
	return true
}

func (n mesh) alike(o mesh) bool {
	if !likeNums(n.a, o.a) || !likeNums(n.b, o.b) {
		return false
	}
	for j, row := range n.rows {
		for i, p := range row {
			if !p.same(o.rows[j][i]) {
				return false
			}
		}
	}
	return true
}

// P27.4: the same corners and other labels; the same labels and one corner more
// or less; other sizes.
func TestSameOfNearlyTheSame(t *testing.T) {
	base := square(3, 2)
	made := base.mesh(t).net(t)
	twice := base
	twice.a, twice.b = repeated(in(2, 0), 3), repeated(in(-2, 0), 2) // the same ratios
	wantNet(t, "the corners", twice.mesh(t).net(t), api.OK, mesh{twice.a, twice.b, base.mesh(t).rows})
	row, column := base, base
	row.row = append(append([]spot{}, base.row[:3]...), on(9, 1))
	column.column = append(append([]spot{}, base.column[:2]...), on(9, 1))
	for k, s := range []edges{twice, row, column, square(2, 2), square(3, 1), square(2, 3), square(3, 3), base.image(slide(in(1, 0))), base.image(slide(parts(0, 1, 1, 2)))} {
		o := s.mesh(t).net(t)
		if made.Same(o) || o.Same(made) || !o.Same(o) {
			t.Errorf("%d is the same", k)
		}
	}
	if o := base.mesh(t).net(t); !made.Same(o) || !made.Same(made) {
		t.Error("the same is another one")
	}
}
