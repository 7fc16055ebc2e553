package nets_test

import (
	"slices"
	"testing"

	"tracery/api"
	"tracery/nets"
)

// roomy answers lists that stand in longer ones.
func roomy(s api.NetSides) (short, whole api.NetSides) {
	whole = api.NetSides{A: slices.Concat(s.A, s.A), B: slices.Concat(s.B, s.B), Row: slices.Concat(s.Row, s.Row), Column: slices.Concat(s.Column, s.Column)}
	return api.NetSides{A: whole.A[:len(s.A)], B: whole.B[:len(s.B)], Row: whole.Row[:len(s.Row)], Column: whole.Column[:len(s.Column)]}, whole
}

func spoil(s api.NetSides) {
	for _, l := range [][]api.Gauss{s.A[:cap(s.A)], s.B[:cap(s.B)]} {
		for k := range l {
			l[k] = api.Gauss{Re: fraction(rat(99, 7))}
		}
	}
	for _, l := range [][]api.Point{s.Row[:cap(s.Row)], s.Column[:cap(s.Column)]} {
		for k := range l {
			l[k] = api.Point{Inf: true, Z: in(99, 7).gauss()}
		}
	}
}

// P27.2: what is handed in stays, spare room included, and is not kept.
func TestSidesAreNotKept(t *testing.T) {
	for _, s := range []edges{unit(), square(3, 1).image(charted(0, 1, 1, 0)), square(1, 1)} {
		given, whole := roomy(s.sides())
		made, e := nets.New(given)
		_, untouched := roomy(s.sides())
		wantSides(t, "what was handed in", whole, api.OK, untouched)
		spoil(given)
		wantNet(t, "New, its lists spoilt", made, e, s.mesh(t))
	}
	// Beside a refusal, too.
	s := unit()
	s.row[2] = s.row[1]
	given, whole := roomy(s.sides())
	nets.New(given)
	_, untouched := roomy(s.sides())
	wantSides(t, "what was refused", whole, api.OK, untouched)
}

// P27.2: one list may be handed in for two.
func TestSidesThatShare(t *testing.T) {
	s := square(3, 3).sides()
	both := append(slices.Clone(s.A), s.B...)
	got, e := nets.New(api.NetSides{A: both[:3], B: both[3:], Row: s.Row, Column: s.Column})
	wantNet(t, "New", got, e, square(3, 3).mesh(t))
	got, e = nets.New(api.NetSides{A: both[:3], B: both[3:], Row: s.Row, Column: s.Row}) // the same points both ways
	wantNoNet(t, "New of one list twice", got, e, api.ErrNet)
}

// P27.3: Sides are new each time, and share nothing.
func TestSidesAreNew(t *testing.T) {
	n := square(3, 2).mesh(t)
	made := n.net(t)
	kept, _ := made.Sides()
	for range 3 {
		s, e := made.Sides()
		wantSides(t, "a net", s, e, n.edges().sides())
		spoil(s)
		wantNet(t, "the net, its sides spoilt", made, api.OK, n)
		wantSides(t, "sides told earlier", kept, api.OK, n.edges().sides())
	}
	s, _ := made.Sides() // each list by itself
	spoil(api.NetSides{A: s.A})
	wantSides(t, "the others", api.NetSides{A: kept.A, B: s.B, Row: s.Row, Column: s.Column}, api.OK, kept)
	spoil(api.NetSides{Row: s.Row})
	wantSides(t, "the others", api.NetSides{A: kept.A, B: s.B, Row: kept.Row, Column: s.Column}, api.OK, kept)
}

// P27.3, P27.4: no call changes the net, or that which is handed in; the nets that
// come of it are their own.
func TestCallsChangeNothing(t *testing.T) {
	n := square(3, 2).mesh(t)
	made := n.net(t)
	made.Size()
	made.At(1, 1)
	made.Square(1, 1)
	made.Label(1, 1)
	for range made.All() {
	}
	m := charted(0, 1, 1, 0).turned()
	image, e := made.Image(m.mob())
	wantNet(t, "Image", image, e, n.image(m))
	turned, e := made.Turned()
	wantNet(t, "Turned", turned, e, n.turned())
	made.Same(turned)
	wantNet(t, "a net that was asked", made, api.OK, n)
	still, _ := made.Image(still().mob())
	if still == made || !still.Same(made) {
		t.Error("not a net of its own")
	}
	*made = nets.Net{} // as a caller may do
	wantNet(t, "Image", image, api.OK, n.image(m))
	wantNet(t, "Turned", turned, api.OK, n.turned())
	wantNet(t, "Image by what moves nothing", still, api.OK, n)
}
