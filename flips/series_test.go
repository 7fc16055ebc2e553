package flips_test

import (
	"math/rand"
	"testing"

	"tracery/api"
	"tracery/flips"
	"tracery/nets"
)

// series answers the nets that Flips is to tell.
func (n mesh) series(by, first []num) []mesh {
	var l []mesh
	for k := range min(len(by), len(first)) {
		o, no := mesh{}, stages{{api.ErrArg}}
		if by[k].goes(n.labels()...) {
			o, no = n.flipped(by[k], at(first[k]))
		}
		if no.first() != api.OK {
			break
		}
		l, n = append(l, o), o
	}
	return l
}

// wantSeries goes over all of them.
func wantSeries(t *testing.T, told func(func(int, *nets.Net) bool), wanted []mesh) {
	t.Helper()
	count := 0
	for k, o := range told {
		if k != count || k >= len(wanted) {
			t.Fatalf("a net with the place %d, behind %d of %d", k, count, len(wanted))
		}
		wantNet(t, "a net of Flips", o, api.OK, wanted[k])
		count++
	}
	if count != len(wanted) {
		t.Fatalf("%d nets, want %d", count, len(wanted))
	}
}

func TestFlips(t *testing.T) { // P28.6
	seen := tally{}
	r := rand.New(rand.NewSource(2850))
	for k, n := range meshes(2851, 250) {
		var by, first []num
		for range r.Intn(5) {
			by = append(by, smallLabel(r))
		}
		for range r.Intn(5) {
			if k%2 == 0 {
				first = append(first, oddNum(r, 1))
			} else {
				p := pooled(r)
				for p.inf {
					p = pooled(r)
				}
				first = append(first, p.z)
			}
		}
		l := n.series(by, first)
		told := flips.Flips(n.net(t), gausses(by), gausses(first))
		wantSeries(t, told, l)
		wantSeries(t, told, l) // again
		switch {
		case len(by) == 0, len(first) == 0:
			seen["an empty list"]++
		case len(l) == 0:
			seen["an error at once"]++
		case len(l) < min(len(by), len(first)):
			seen["an error further on"]++
		case len(by) < len(first):
			seen["by ends"]++
		case len(by) > len(first):
			seen["first ends"]++
		default:
			seen["both end"]++
		}
	}
	seen.least(t, 5, "an empty list", "an error at once", "an error further on", "by ends", "first ends", "both end")
}

// threeSteps are numbers and first points by which the unit net can be flipped.
func threeSteps() (by, first []num) {
	return []num{in(2, 0), in(3, 0), in(0, 1)}, []num{in(3, 1), in(-1, 4), parts(1, 2, 1, 3)}
}

// P28.6: what may not be, what does not go with the net, what is too big, at the
// first place and further on.
func TestFlipsToAnError(t *testing.T) {
	n := unit().mesh(t)
	by, first := threeSteps()
	l := n.series(by, first)
	if len(l) != 3 {
		t.Fatal("not three nets")
	}
	for k := range 3 {
		for _, z := range append(wrongLabels(), in(1, 0).gauss(), in(-1, 0).gauss()) {
			wrong := gausses(by)
			wrong[k] = z
			wantSeries(t, flips.Flips(n.net(t), wrong, gausses(first)), l[:k])
		}
		for _, z := range wrongNumbers() {
			wrong := gausses(first)
			wrong[k] = z
			wantSeries(t, flips.Flips(n.net(t), gausses(by), wrong), l[:k])
		}
		last := append([]mesh{n}, l...)[k]
		for _, z := range []num{along(ofInt(top())), last.row[0].z, last.row[1].z, last.column[1].z} { // ErrBig, ErrNet
			wrong := gausses(first)
			wrong[k] = z.gauss()
			wantSeries(t, flips.Flips(n.net(t), gausses(by), wrong), l[:k])
		}
	}
}

// P28.6: lists that are empty or nil; nets that are none.
func TestFlipsOfNothing(t *testing.T) {
	n := unit().mesh(t)
	by, first := threeSteps()
	for _, empty := range [][]api.Gauss{nil, {}} {
		for _, l := range [][2][]api.Gauss{{empty, gausses(first)}, {gausses(by), empty}, {empty, empty}, {nil, empty}} {
			wantSeries(t, flips.Flips(n.net(t), l[0], l[1]), nil)
		}
	}
	for _, none := range nothing() {
		told := flips.Flips(none, gausses(by), gausses(first))
		if told == nil {
			t.Fatal("it is not there")
		}
		wantSeries(t, told, nil)
		wantSeries(t, flips.Flips(none, nil, nil), nil)
	}
	// Further ones of the longer list do not count.
	for k := range 4 {
		wantSeries(t, flips.Flips(n.net(t), gausses(by[:k]), append(gausses(first), wrongNumbers()...)), n.series(by[:k], first))
		wantSeries(t, flips.Flips(n.net(t), append(gausses(by), wrongNumbers()...), gausses(first[:k])), n.series(by, first[:k]))
	}
}

// P28.6: left early, gone over again, gone over within itself.
func TestFlipsAgain(t *testing.T) {
	n := unit().mesh(t)
	by, first := threeSteps()
	l := n.series(by, first)
	told := flips.Flips(n.net(t), gausses(by), gausses(first))
	for leave := range 3 {
		for k, o := range told {
			wantNet(t, "a net that is left behind", o, api.OK, l[k])
			if k == leave {
				break
			}
		}
	}
	for k, o := range told {
		wantSeries(t, told, l)
		for range told {
			break
		}
		wantNet(t, "a net, told behind others", o, api.OK, l[k])
	}
	var kept [2][]*nets.Net
	for n := range kept {
		for _, o := range told {
			kept[n] = append(kept[n], o)
		}
	}
	for k := range l {
		if kept[0][k] == kept[1][k] || k > 0 && kept[0][k] == kept[0][k-1] {
			t.Error("not a net of its own")
		}
	}
	many := make([]api.Gauss, 0, 500) // to and fro
	ends := make([]api.Gauss, 0, 500)
	for k := range 500 {
		many, ends = append(many, in(2, 0).gauss()), append(ends, []num{in(3, 1), in(0, 0)}[k%2].gauss())
	}
	count := 0
	for k, o := range flips.Flips(n.net(t), many, ends) {
		if k != count || k%2 == 1 && !o.Same(n.net(t)) {
			t.Fatal("not to and fro")
		}
		count++
	}
	if count != 500 {
		t.Errorf("%d nets", count)
	}
}

// P28.6: of the lists as they are when it is called, and of that net; what was
// told may be spoilt.
func TestFlipsKeepsItsOwn(t *testing.T) {
	n := unit().mesh(t)
	by, first := threeSteps()
	l := n.series(by, first)
	made, x, y := n.net(t), gausses(append(by, by...)), gausses(append(first, first...))
	told := flips.Flips(made, x[:3], y[:3])
	for k := range x {
		if k < 3 && x[k] != by[k].gauss() || k < 3 && y[k] != first[k].gauss() {
			t.Error("a list is changed")
		}
		x[k], y[k] = in(77, 1).gauss(), in(78, 1).gauss()
	}
	wantSeries(t, told, l)
	for k := range told {
		x[k], y[k] = api.Gauss{}, api.Gauss{}
	}
	wantNet(t, "the net", made, api.OK, n)
	count := 0
	for k, o := range told {
		wantNet(t, "a net", o, api.OK, l[k])
		*o = nets.Net{} // as a caller may do
		count++
	}
	if count != 3 {
		t.Errorf("%d nets, as what was told is spoilt", count)
	}
	wantSeries(t, told, l)
	*made = nets.Net{}
	wantSeries(t, told, l)
	*made = *square(1, 1).mesh(t).net(t)
	wantSeries(t, told, l)
}
