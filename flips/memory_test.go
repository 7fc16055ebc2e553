package flips_test

import (
	"slices"
	"testing"

	"tracery/api"
	"tracery/flips"
	"tracery/nets"
)

// P28.1, P28.2: what is handed in stays, spare room included; what is answered is
// new each time, spare room included.
func TestListsStay(t *testing.T) {
	for _, x := range []row{{straight(4, in(1, 0)), repeated(in(1, 0), 3)}, {straight(1, in(1, 0)), nil}, {[]spot{on(0, 0), on(1, 0), on(1, 0)}, repeated(in(1, 0), 2)}} {
		p, l := slices.Concat(points(x.points), points(x.points)), slices.Concat(gausses(x.labels), gausses(x.labels))
		q, m := slices.Clone(p), slices.Clone(l)
		given, labels := p[:len(x.points)], l[:len(x.labels)]
		got, e := flips.Row(given, labels, in(2, 0).gauss(), on(0, 1).point())
		flips.Carry(given, labels, in(2, 0).gauss())
		if !slices.Equal(p, q) || !slices.Equal(l, m) {
			t.Fatal("what was handed in is changed")
		}
		if e != api.OK {
			continue
		}
		kept := slices.Clone(got)
		again, _ := flips.Row(given, labels, in(2, 0).gauss(), on(0, 1).point())
		for k := range got[:cap(got)] {
			got[:cap(got)][k] = far().point()
		}
		wantPoints(t, "Row again", again, api.OK, kept)
		if !slices.Equal(p, q) || !slices.Equal(l, m) {
			t.Fatal("the answer is what was handed in")
		}
		for k := range p {
			p[k] = far().point()
		}
		wantPoints(t, "Row, its points spoilt", again, api.OK, kept)
	}
}

// P28.3, P28.4, P28.5: nets that are handed in stay, and are not kept; those that
// are answered are their own.
func TestNetsStay(t *testing.T) {
	n := several().mesh(t)
	made := n.net(t)
	o, e := flips.Flip(made, in(2, 0).gauss(), on(5, 1).point())
	l, f := flips.Both(made, in(2, 0).gauss(), in(3, 0).gauss(), on(5, 1).point(), on(-1, 4).point())
	if e != api.OK || f != api.OK {
		t.Fatal(e, f)
	}
	flips.Beside(made, o, in(2, 0).gauss())
	flips.Beside(o, made, in(2, 0).gauss())
	wantNet(t, "the net", made, api.OK, n)
	flipped, _ := n.flipped(in(2, 0), on(5, 1))
	three, _ := n.both(in(2, 0), in(3, 0), on(5, 1), on(-1, 4))
	*made = nets.Net{} // as a caller may do
	wantNet(t, "Flip", o, api.OK, flipped)
	for k := range l {
		wantNet(t, "Both", l[k], api.OK, three[k])
	}
	*l[0] = nets.Net{}
	wantNet(t, "the second", l[1], api.OK, three[1])
	wantNet(t, "the third", l[2], api.OK, three[2])
	wantNet(t, "Flip", o, api.OK, flipped)
}
