package flips_test

import (
	"fmt"
	"math/rand"
	"slices"
	"testing"

	"tracery/api"
	"tracery/flips"
)

// wantFlip holds Flip against the chapter's words; it wants what is no ErrArg.
func wantFlip(t *testing.T, seen tally, n mesh, by num, first spot) {
	t.Helper()
	got, e := flips.Flip(n.net(t), by.gauss(), first.point())
	o, no := n.flipped(by, first)
	if no.first() == api.OK {
		seen["told"]++
		if first.inf {
			seen["infinity first"]++
		}
		for _, l := range o.rows {
			if slices.ContainsFunc(l, far().same) {
				seen["infinity among the corners"]++
			}
		}
		wantNet(t, "Flip", got, e, o)
		return
	}
	wantNoNet(t, "Flip that is refused", got, e, no.first())
	for k, what := range []string{"row", "column", "net"} {
		if x := no[k].first(); x != api.OK {
			seen[fmt.Sprint(x, " of the ", what)]++
			if y := slices.Concat(no[k+1:]...).first(); y != api.OK && y != x {
				seen[fmt.Sprint(x, " of the ", what, " ahead of ", y)]++
			}
			break
		}
	}
}

// flippings makes nets, numbers that go with them and first points.
func flippings(seed int64, count int, do func(n mesh, by num, first spot)) {
	r := rand.New(rand.NewSource(seed))
	for k, n := range meshes(seed, count) {
		most := 1 + k%3
		do(n, goingWith(n.labels(), func() num { return smallLabel(r) }), pooled(r))
		do(n, goingWith(n.labels(), func() num { return oddNum(r, most) }), oddSpot(r, most))
	}
}

func TestFlip(t *testing.T) { // P28.3
	t.Parallel()
	seen := tally{}
	flippings(2830, 1200, func(n mesh, by num, first spot) { wantFlip(t, seen, n, by, first) })
	net := api.ErrNet.Error()
	seen.least(t, 30, "told", net+" of the row", net+" of the column")
	seen.least(t, 10, "infinity first", "infinity among the corners")
}

func TestFlipAtTheBound(t *testing.T) { // P28.3
	t.Parallel()
	seen := tally{}
	k := 0
	flippings(2831, 400, func(n mesh, by num, first spot) {
		k++
		m := stretch(along(scales()[k%len(scales())]))
		n, no := n.image(m).filled()
		if first = m.at(first); len(no) == 0 && first.fits() && allFit(n.row) && allFit(n.column) {
			wantFlip(t, seen, n, by, first)
		}
	})
	net, big := api.ErrNet.Error(), api.ErrBig.Error()
	seen.least(t, 5, "told", net+" of the row", big+" of the row", big+" of the column")
	seen.least(t, 1, net+" of the column", big+" of the row ahead of "+net, net+" of the row ahead of "+big)
}

// P28.3: which of the errors comes up first, of the row, of the column, of the
// net. Of infinity, q and s and the ratio 2 the last corner is 2 q - s, of the
// ratio -2 it is (2 q + s) / 3.
func TestFlipWhichComesFirst(t *testing.T) {
	great := along(ofInt(twos(8190)))
	one := func(q, s num) mesh {
		return edges{[]num{in(2, 0)}, []num{in(-2, 0)}, []spot{far(), at(q)}, []spot{far(), at(s)}}.mesh(t)
	}
	for k, x := range []struct {
		n     mesh
		first num
		want  api.Errno
	}{
		{one(in(1, 0), in(5, 0)), in(3, 0), api.OK},                    // -1 and 13/3
		{one(in(1, 0), in(5, 0)), in(1, 0), api.ErrNet},                // of the row
		{one(in(1, 0), in(5, 0)), in(5, 0), api.ErrNet},                // of the column
		{one(in(4, 0), in(5, 0)), parts(7, 2, 0, 1), api.ErrNet},       // of the net: 9/2 twice
		{one(great.plus(great), in(0, 0)), great.neg(), api.ErrBig},    // of the row: 5 great
		{one(great.plus(great), great.neg()), great.neg(), api.ErrBig}, // of the row, ahead of ErrNet of the column
	} {
		got, e := flips.Flip(x.n.net(t), in(1, 0).gauss(), at(x.first).point())
		if e != x.want || (got == nil) != (e != api.OK) {
			t.Errorf("%d: %v, want %v", k, e, x.want)
		}
		wantFlip(t, tally{}, x.n, in(1, 0), at(x.first))
	}
}

// P28.3: first points by which two corners of the flipped net's first square are
// the same, though both its sides can be flipped.
func TestFlipToNoNet(t *testing.T) {
	seen := tally{}
	flippings(2835, 200, func(n mesh, by num, _ spot) {
		p := n.row[0]
		m := step(p, n.column[1], n.b[0].over(by)).inverse().behind(step(p, n.row[1], n.a[0].over(by)))
		if first := m.other(p); first.fits() {
			wantFlip(t, seen, n, by, first)
		}
	})
	seen.least(t, 30, api.ErrNet.Error()+" of the net")
}

// P28.3: what is too big at the last, in the row, in the column, in the net.
func TestFlipGrowing(t *testing.T) {
	t.Parallel()
	seen := tally{}
	flippings(2836, 30, func(n mesh, by num, first spot) {
		o, no := n.flipped(by, first)
		if no.first() != api.OK {
			return
		}
		given := append(n.spots(), first)
		for _, x := range [][2][]spot{{given, o.row}, {slices.Concat(given, o.row), o.column}, {slices.Concat(given, o.row, o.column), o.spots()}, {slices.Concat(given, o.spots()), {on(1<<60, 0)}}} {
			if m, is := between(x[0], x[1]); is {
				wantFlip(t, seen, n.image(m).mesh(t), by, m.at(first))
			}
		}
	})
	big := api.ErrBig.Error()
	seen.least(t, 10, "told", big+" of the row", big+" of the column", big+" of the net")
}

// lanky is a net, and a number and a first point, by which a label over that
// number is too long to be told, while nothing that is answered is.
func lanky() (s edges, by num, first spot) {
	t := twos(4800)
	a, one := along(ofInt(more(t, 1))), along(under(more(t, -1)))
	return edges{[]num{a}, []num{a.neg()}, []spot{far(), at(one)}, []spot{far(), on(1, 0)}}, one, at(a)
}

func TestFlipByLongRatios(t *testing.T) { // P28.3
	seen := tally{}
	s, by, first := lanky()
	if s.a[0].over(by).fits() || s.b[0].over(by).fits() {
		t.Fatal("the ratios are short")
	}
	for _, m := range []chart{still(), slide(in(1, 3)), charted(0, 1, 1, 0), stretch(parts(1, 3, 1, 2))} {
		wantFlip(t, seen, s.image(m).mesh(t), by, m.at(first))
		wantFlip(t, seen, s.image(m).turned().mesh(t), by, m.at(first))
	}
	r := rand.New(rand.NewSource(2832))
	for k := range 6 {
		z, d := longNum(r, 1000), longNum(r, 900)
		s := unit()
		s.a, s.b = repeated(z, 2), repeated(z.neg(), 2)
		wantFlip(t, seen, s.mesh(t), z.scaled(rat(2, 1)), on(3, 1))
		wantFlip(t, seen, square(1+k%3, 1+k/2).image(slide(d)).mesh(t), in(2, 0), slide(d).at(on(3, 1)))
	}
	seen.least(t, 20, "told")
}

func TestFlipOfManySquares(t *testing.T) { // P28.3
	seen := tally{}
	for _, x := range [][2]int{{64, 64}, {64, 1}, {1, 64}} {
		wantFlip(t, seen, square(x[0], x[1]).mesh(t), in(2, 0), on(3, 1))
	}
	seen.least(t, 3, "told")
}

// wrongBys are numbers that do not go with a net.
func wrongBys(n mesh) []api.Gauss { return append(wrongLabels(), gausses(n.labels())...) }

// several is a net all of whose labels are unlike.
func several() edges {
	s := square(3, 2)
	s.a, s.b = []num{in(1, 0), in(0, 1), parts(1, 2, 0, 1)}, []num{in(-1, 0), in(0, -2)}
	return s
}

// P28.3: ErrNil ahead of ErrArg, and that ahead of all else.
func TestFlipRefuses(t *testing.T) {
	for _, s := range []edges{unit(), several(), square(1, 1).image(stretch(along(ofInt(twos(8180)))))} {
		n := s.mesh(t)
		made := n.net(t)
		for _, first := range []api.Point{on(3, 1).point(), n.row[0].point(), n.row[1].point(), n.column[1].point(), {Inf: true}} {
			for _, by := range wrongBys(n) {
				got, e := flips.Flip(made, by, first)
				wantNoNet(t, "Flip by a wrong number", got, e, api.ErrArg)
			}
		}
		for _, first := range wrongPoints() {
			for _, by := range []api.Gauss{in(7, 0).gauss(), n.a[0].gauss(), {}} {
				got, e := flips.Flip(made, by, first)
				wantNoNet(t, "Flip with a wrong point", got, e, api.ErrArg)
			}
		}
		wantNet(t, "a net behind refusals", made, api.OK, n)
	}
	for _, none := range nothing() {
		for _, by := range append(wrongLabels(), in(2, 0).gauss()) {
			for _, first := range append(wrongPoints()[:6], on(0, 0).point()) {
				got, e := flips.Flip(none, by, first)
				wantNoNet(t, "Flip of nothing", got, e, api.ErrNil)
			}
		}
	}
}

// both answers the three nets, as far as there are, and the errors of the first
// one, of the second one, of the corner, of the third one.
func (n mesh) both(by, also num, first, second spot) (l [3]mesh, no [4]api.Errno) {
	var errors [3]stages
	l[0], errors[0] = n.flipped(by, first)
	l[1], errors[1] = n.flipped(also, second)
	no[0], no[1] = errors[0].first(), errors[1].first()
	p := n.row[0]
	if !unlike(p, first, second) {
		no[2] = api.ErrNet
		return l, no
	}
	r := corner(p, first, second, by.over(also))
	if !r.fits() {
		no[2] = api.ErrBig
	}
	if no[0] == api.OK {
		l[2], errors[2] = l[0].flipped(also, r)
		no[3] = errors[2].first()
	}
	return l, no
}

func wantBoth(t *testing.T, seen tally, n mesh, by, also num, first, second spot) {
	t.Helper()
	got, e := flips.Both(n.net(t), by.gauss(), also.gauss(), first.point(), second.point())
	l, no := n.both(by, also, first, second)
	for k, what := range []string{"the first", "the second", "the corner", "the third"} {
		if no[k] == api.OK {
			continue
		}
		wantNone(t, "Both that is refused", got, e, no[k])
		seen[fmt.Sprint(no[k], " of ", what)]++
		for _, x := range no[k+1:] {
			if x != api.OK && x != no[k] {
				seen[fmt.Sprint(no[k], " of ", what, " ahead of another")]++
			}
		}
		return
	}
	seen["told"]++
	for k := range got {
		wantNet(t, "Both", got[k], e, l[k])
	}
	if got[0] == got[1] || got[1] == got[2] || got[2] == got[0] {
		t.Fatal("two of the three are one")
	}
}

// pairings makes nets, two numbers that go with them and two first points.
func pairings(seed int64, count int, do func(n mesh, by, also num, first, second spot)) {
	r := rand.New(rand.NewSource(seed))
	for k, n := range meshes(seed, count) {
		label, next := func() num { return smallLabel(r) }, func() spot { return pooled(r) }
		if k%4 == 0 {
			label, next = func() num { return oddNum(r, 1) }, func() spot { return oddSpot(r, 1) }
		}
		by := goingWith(n.labels(), label)
		do(n, by, goingWith(append(n.labels(), by), label), next(), next())
	}
}

func TestBoth(t *testing.T) { // P28.4
	t.Parallel()
	seen := tally{}
	pairings(2833, 1500, func(n mesh, by, also num, first, second spot) { wantBoth(t, seen, n, by, also, first, second) })
	net := api.ErrNet.Error()
	seen.least(t, 20, "told", net+" of the first", net+" of the second", net+" of the corner")
}

// P28.4: second points by which the third net's first corner is one of the first
// net's beside it.
func TestBothToNoThird(t *testing.T) {
	seen := tally{}
	pairings(2839, 300, func(n mesh, by, also num, first, _ spot) {
		o, no := n.flipped(by, first)
		if no.first() != api.OK {
			return
		}
		back := step(n.row[0], first, by.over(also)).inverse()
		for _, p := range []spot{o.row[1], o.column[1]} {
			if second := back.at(p); second.fits() {
				wantBoth(t, seen, n, by, also, first, second)
			}
		}
	})
	seen.least(t, 10, api.ErrNet.Error()+" of the third")
}

func TestBothAtTheBound(t *testing.T) { // P28.4
	t.Parallel()
	seen := tally{}
	k := 0
	pairings(2834, 700, func(n mesh, by, also num, first, second spot) {
		k++
		m := stretch(along(append(scales(), ofInt(twos(8176)), under(twos(8170)))[k%8]))
		n, no := n.image(m).filled()
		first, second = m.at(first), m.at(second)
		if len(no) == 0 && allFit([]spot{first, second}) && allFit(n.row) && allFit(n.column) {
			wantBoth(t, seen, n, by, also, first, second)
		}
	})
	net, big := api.ErrNet.Error(), api.ErrBig.Error()
	seen.least(t, 5, "told", big+" of the first", big+" of the second", net+" of the first", net+" of the second")
	seen.least(t, 1, net+" of the corner", big+" of the first ahead of another", net+" of the first ahead of another", big+" of the second ahead of another")
}

// P28.4: what is too big at the last, in each of the four.
func TestBothGrowing(t *testing.T) {
	t.Parallel()
	seen := tally{}
	pairings(2837, 60, func(n mesh, by, also num, first, second spot) {
		l, no := n.both(by, also, first, second)
		if no != [4]api.Errno{} {
			return
		}
		known := append(n.spots(), first, second)
		for _, next := range [][]spot{l[0].spots(), l[1].spots(), l[2].rows[0][:1], l[2].spots(), {on(1<<60, 0)}} {
			if m, is := between(known, next); is {
				wantBoth(t, seen, n.image(m).mesh(t), by, also, m.at(first), m.at(second))
			}
			known = append(known, next...)
		}
	})
	big := api.ErrBig.Error()
	seen.least(t, 5, "told", big+" of the first", big+" of the second", big+" of the corner", big+" of the third")
}

// steep is a net, two numbers and two first points, by which the one number over
// the other one is too long to be told, and a label over it, while nothing that
// is answered is. All corners are sums of products of two labels, over 16.
func steep() (s edges, by, also num, first, second spot) {
	x := func(z num) spot { return at(z.times(z).scaled(rat(1, 16))) }
	c := more(twos(4096), -1)
	a, b := in(1, 0), in(3, 0)
	by, also = in(2, 0), num{ofInt(c), ofInt(more(c, -1))}
	return edges{[]num{a}, []num{b}, []spot{far(), x(a)}, []spot{far(), x(b)}}, by, also, x(by), x(also)
}

func TestBothByLongRatios(t *testing.T) { // P28.4
	seen := tally{}
	s, by, also, first, second := steep()
	if by.over(also).fits() || s.a[0].over(also).fits() {
		t.Fatal("the ratios are short")
	}
	for _, m := range []chart{still(), slide(in(2, 5)), stretch(in(0, -1))} {
		n := s.image(m).mesh(t)
		wantBoth(t, seen, n, by, also, m.at(first), m.at(second))
		wantBoth(t, seen, n, also, by, m.at(second), m.at(first))
		wantBoth(t, seen, s.image(m).turned().mesh(t), by, also, m.at(first), m.at(second))
	}
	seen.least(t, 9, "told")
	r := rand.New(rand.NewSource(2838))
	for range 3 {
		z, d := longNum(r, 1000), longNum(r, 900)
		s := unit()
		s.a, s.b = repeated(z, 2), repeated(z.neg(), 2)
		wantBoth(t, seen, s.mesh(t), z.scaled(rat(2, 1)), z.scaled(rat(3, 1)), on(3, 1), on(-1, 4))
		wantBoth(t, seen, square(2, 1).image(slide(d)).mesh(t), in(2, 0), in(3, 0), slide(d).at(on(3, 1)), slide(d).at(on(-1, 4)))
	}
	seen.least(t, 15, "told")
}

// P28.4: ErrNil ahead of ErrArg, and that ahead of all else.
func TestBothRefuses(t *testing.T) {
	for _, s := range []edges{unit(), several()} {
		n := s.mesh(t)
		made := n.net(t)
		p, q := on(3, 1).point(), on(-1, 4).point()
		good := []api.Gauss{in(7, 0).gauss(), in(5, 0).gauss()}
		for _, l := range [][2]api.Point{{p, q}, {p, p}, {n.row[0].point(), q}, {p, n.row[0].point()}} {
			for _, z := range wrongBys(n) {
				for _, x := range [][2]api.Gauss{{z, good[0]}, {good[0], z}, {z, z}} {
					got, e := flips.Both(made, x[0], x[1], l[0], l[1])
					wantNone(t, "Both by a wrong number", got, e, api.ErrArg)
				}
			}
			got, e := flips.Both(made, good[0], good[0], l[0], l[1])
			wantNone(t, "Both by one number twice", got, e, api.ErrArg)
		}
		for _, x := range wrongPoints() {
			for _, l := range [][2]api.Point{{x, q}, {p, x}, {x, x}, {x, n.row[0].point()}, {n.row[0].point(), x}} {
				got, e := flips.Both(made, good[0], good[1], l[0], l[1])
				wantNone(t, "Both with a wrong point", got, e, api.ErrArg)
			}
		}
		wantNet(t, "a net behind refusals", made, api.OK, n)
	}
	for _, none := range nothing() {
		for _, by := range append(wrongLabels()[:9], in(2, 0).gauss()) {
			for _, first := range append(wrongPoints()[:6], on(0, 0).point()) {
				got, e := flips.Both(none, by, in(2, 0).gauss(), first, on(1, 1).point())
				wantNone(t, "Both of nothing", got, e, api.ErrNil)
				got, e = flips.Both(none, in(2, 0).gauss(), by, on(1, 1).point(), first)
				wantNone(t, "Both of nothing", got, e, api.ErrNil)
			}
		}
	}
}
