package flips_test

import (
	"fmt"
	"math/rand"
	"slices"
	"testing"

	"tracery/api"
	"tracery/flips"
	"tracery/nets"
)

// alike tells whether both have the same labels.
func alike(n, o mesh) bool {
	return slices.EqualFunc(n.a, o.a, num.same) && slices.EqualFunc(n.b, o.b, num.same)
}

// wantBeside holds Beside against the chapter's words.
func wantBeside(t *testing.T, seen tally, n, o mesh, by num) {
	t.Helper()
	wanted := alike(n, o) && by.goes(n.labels()...)
	if wanted {
		across, up := n.beside(o, by)
		seen[fmt.Sprint(across, up)]++
		wanted = across && up
	}
	got, e := flips.Beside(n.net(t), o.net(t), by.gauss())
	want(t, "Beside", got, e, wanted)
	got, e = flips.Beside(o.net(t), n.net(t), by.gauss())
	want(t, "Beside, the other way round", got, e, wanted)
}

// changed goes over the nets that come, if one point of a net's sides is another
// one.
func changed(n mesh, p spot, do func(o mesh)) {
	try := func(s edges) {
		if o, no := s.filled(); len(no) == 0 {
			do(o)
		}
	}
	for k := range n.row {
		s := n.edges
		s.row = slices.Clone(s.row)
		s.row[k] = p
		if k == 0 {
			s.column = slices.Clone(s.column)
			s.column[0] = p
		}
		try(s)
	}
	for k := range n.column[1:] {
		s := n.edges
		s.column = slices.Clone(s.column)
		s.column[k+1] = p
		try(s)
	}
}

func TestBeside(t *testing.T) { // P28.5
	t.Parallel()
	seen := tally{}
	k, r := 0, rand.New(rand.NewSource(2840))
	flippings(2841, 200, func(n mesh, by num, first spot) {
		o, no := n.flipped(by, first)
		if k++; no.first() != api.OK || k%3 > 0 {
			return
		}
		wantBeside(t, seen, n, o, by)
		wantBeside(t, seen, n, o, by.neg())
		wantBeside(t, seen, n, o, in(7, 0))
		wantBeside(t, seen, n, n, by) // a net and itself
		changed(o, pooled(r), func(x mesh) { wantBeside(t, seen, n, x, by) })
		changed(n, pooled(r), func(x mesh) { wantBeside(t, seen, n, x, by) })
	})
	seen.least(t, 50, "true true", "false false")
}

// P28.5: all squares along rows fit, and those along columns do not, and the
// other way round. Beside a flipped row there are two columns, of which one fits.
func TestBesideOneWay(t *testing.T) {
	seen := tally{}
	flippings(2842, 900, func(n mesh, by num, first spot) {
		o, no := n.flipped(by, first)
		if no.first() != api.OK || len(n.a) > 1 || len(n.b) > 1 {
			return
		}
		up := step(n.column[1], n.rows[1][1], n.a[0].over(by)).inverse().behind(step(o.row[0], o.row[1], n.a[0].over(n.b[0])))
		s := edges{n.a, n.b, o.row, []spot{o.row[0], up.other(o.column[1])}}
		if x, no := s.filled(); len(no) == 0 && s.column[1].fits() {
			wantBeside(t, seen, n, x, by)
			s = n.turned()
			wantBeside(t, seen, s.mesh(t), x.turned().mesh(t), by)
		}
	})
	seen.least(t, 5, "true false", "false true")
}

// P28.5: two corners that are the same in some of the squares.
func TestBesideOfTwins(t *testing.T) {
	t.Parallel()
	seen := tally{}
	k := 0
	flippings(2843, 60, func(n mesh, by num, first spot) {
		o, no := n.flipped(by, first)
		if k++; no.first() != api.OK || k%6 > 0 {
			return
		}
		for _, p := range []spot{n.row[0], n.row[1], n.column[1], n.rows[1][1]} {
			changed(o, p, func(x mesh) {
				along, up := n.besides(x)
				if slices.ContainsFunc(append(along, up...), func(l four) bool { return !unlike(l[:]...) }) {
					seen["twins"]++
				}
				wantBeside(t, seen, n, x, by)
			})
		}
	})
	seen.least(t, 50, "twins")
}

// P28.5: other labels, by which the same corners make a net, too; other sizes.
func TestBesideOfOthers(t *testing.T) {
	n := square(2, 3).mesh(t)
	o, no := n.flipped(in(2, 0), on(3, 1))
	if no.first() != api.OK {
		t.Fatal(no)
	}
	wantBeside(t, tally{}, n, o, in(2, 0))
	twice := o
	twice.a, twice.b = repeated(in(2, 0), 2), repeated(in(-2, 0), 3)
	for _, x := range []mesh{twice, square(2, 2).mesh(t), square(3, 3).mesh(t), square(3, 2).mesh(t), square(1, 1).mesh(t), n.turned().mesh(t), o.turned().mesh(t)} {
		for _, by := range []num{in(2, 0), in(4, 0), in(5, 0)} {
			wantBeside(t, tally{}, n, x, by)
			wantBeside(t, tally{}, x, o, by)
		}
	}
	// Labels of which just one is another one, on either side.
	s := several()
	o, no = s.mesh(t).flipped(in(2, 0), on(5, 1))
	if no.first() != api.OK {
		t.Fatal(no)
	}
	wantBeside(t, tally{}, s.mesh(t), o, in(2, 0))
	for k := range 3 {
		x := o.edges
		x.a = slices.Clone(x.a)
		x.a[k] = in(9, 9)
		wantBeside(t, tally{}, s.mesh(t), x.mesh(t), in(2, 0))
	}
	for k := range 2 {
		x := o.edges
		x.b = slices.Clone(x.b)
		x.b[k] = in(9, 9)
		wantBeside(t, tally{}, s.mesh(t), x.mesh(t), in(2, 0))
	}
}

// P28.5: a number that is 0, or a label, is no error: nothing lies beside by it.
func TestBesideByNoNumber(t *testing.T) {
	n := several().mesh(t)
	o, _ := n.flipped(in(2, 0), on(5, 1))
	for _, by := range append(n.labels(), in(0, 0)) {
		for _, x := range []mesh{o, n} {
			got, e := flips.Beside(n.net(t), x.net(t), by.gauss())
			want(t, "Beside by 0 or a label", got, e, false)
		}
	}
	// A net that is moved on by a square: by a label all squares have their
	// ratios, since two that stand across in them are the same.
	for _, x := range [][2]int{{2, 2}, {1, 1}, {3, 1}, {1, 3}} {
		n := square(x[0], x[1]).mesh(t)
		for _, z := range []num{in(1, 0), in(-1, 0), in(0, 1), in(0, -1)} {
			o := n.image(slide(z)).mesh(t)
			for _, by := range []num{in(1, 0), in(-1, 0), in(0, 0)} {
				wantBeside(t, tally{}, n, o, by)
			}
		}
	}
}

// P28.5: ErrNil, of either net, ahead of ErrArg.
func TestBesideRefuses(t *testing.T) {
	n := unit().mesh(t).net(t)
	for _, by := range wrongNumbers() {
		got, e := flips.Beside(n, n, by)
		wantNone(t, "Beside by a wrong number", got, e, api.ErrArg)
		other, _ := nets.New(square(1, 3).sides()) // ahead of nets that are unlike
		got, e = flips.Beside(n, other, by)
		wantNone(t, "Beside by a wrong number", got, e, api.ErrArg)
	}
	for _, none := range nothing() {
		for _, by := range append(wrongLabels(), in(2, 0).gauss(), in(1, 0).gauss()) {
			for _, l := range [][2]*nets.Net{{none, n}, {n, none}, {none, none}, {none, nil}, {nil, none}} {
				got, e := flips.Beside(l[0], l[1], by)
				wantNone(t, "Beside of nothing", got, e, api.ErrNil)
			}
		}
	}
}

// P28.5: no ErrBig, however long the numbers are.
func TestBesideOfLongNumbers(t *testing.T) {
	seen := tally{}
	s, by, first := lanky()
	n := s.mesh(t)
	o, no := n.flipped(by, first)
	if no.first() != api.OK {
		t.Fatal(no)
	}
	wantBeside(t, seen, n, o, by)
	wantBeside(t, seen, n, o, by.neg())
	s, _, by, _, first = steep()
	n = s.mesh(t)
	o, _ = n.flipped(by, first)
	wantBeside(t, seen, n, o, by)
	seen.least(t, 2, "true true")
	r := rand.New(rand.NewSource(2845))
	z, d := longNum(r, 1000), slide(longNum(r, 900))
	x := unit()
	x.a, x.b = repeated(z, 2), repeated(z.neg(), 2)
	n = x.image(d).mesh(t)
	o, _ = n.flipped(z.scaled(rat(2, 1)), d.at(on(3, 1)))
	wantBeside(t, seen, n, o, z.scaled(rat(2, 1)))
	wantBeside(t, seen, n, o, z.scaled(rat(3, 1)))
	seen.least(t, 3, "true true")
	// Corners that would be too big, were they told.
	great := chart{along(ofInt(top())), in(0, 0), in(0, 0), in(1, 0)}
	p := edges{[]num{in(1, 0)}, []num{in(-1, 0)}, []spot{far(), on(1, 0)}, []spot{far(), on(-1, 0)}}
	q := edges{p.a, p.b, []spot{on(0, 0), on(1, 0)}, []spot{on(0, 0), on(0, 1)}}.image(great)
	wantBeside(t, seen, p.mesh(t), q.mesh(t), longNum(r, 1024))
	wantBeside(t, seen, p.mesh(t), q.mesh(t), in(2, 0))
}

func TestBesideOfManySquares(t *testing.T) { // P28.5
	n := square(64, 64).mesh(t)
	made := n.net(t)
	o, e := flips.Flip(made, in(2, 0).gauss(), on(3, 1).point())
	is, f := flips.Beside(made, o, in(2, 0).gauss())
	if !is || e != api.OK || f != api.OK {
		t.Errorf("Beside is %v, %v, %v", is, e, f)
	}
	// What differs just at the far end of a side.
	s, _ := o.Sides()
	row, column := s, s
	row.Row, column.Column = slices.Clone(s.Row), slices.Clone(s.Column)
	row.Row[64], column.Column[64] = on(9, 9).point(), on(9, 9).point()
	for _, x := range []api.NetSides{row, column} {
		other, e := nets.New(x)
		is, f := flips.Beside(made, other, in(2, 0).gauss())
		if is || e != api.OK || f != api.OK {
			t.Errorf("Beside is %v, %v, %v", is, e, f)
		}
	}
}
