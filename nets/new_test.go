package nets_test

import (
	"math/big"
	"math/rand"
	"slices"
	"testing"

	"tracery/api"
	"tracery/nets"
)

// wantNew holds New against the chapter's words; it wants sides that are some,
// and no more than MaxSide labels.
func wantNew(t *testing.T, seen tally, s edges) {
	t.Helper()
	n, no := s.filled()
	got, e := nets.New(s.sides())
	if len(no) == 0 {
		seen["told"]++
		wantNet(t, "New", got, e, n)
		return
	}
	first, last := no[0], no[len(no)-1]
	wantNoNet(t, "New of what makes no net", got, e, first.e)
	switch {
	case first.e == api.ErrNet && first.i == 1 && first.j == 1:
		seen["ErrNet at once"]++
	case first.e == api.ErrNet && first.j == 1:
		seen["ErrNet in the first row"]++
	case first.e == api.ErrNet && first.j == len(s.b):
		seen["ErrNet in the last row"]++
	case last.e == api.ErrNet:
		seen["ErrBig ahead of ErrNet"]++
	case first.e == api.ErrBig:
		seen["ErrBig"]++
		if first.j > 1 {
			seen["ErrBig behind the first row"]++
		}
	}
	if _, other := s.turned().filled(); len(other) > 0 && other[0].e != first.e {
		seen["another one column by column"]++
	}
}

func TestNew(t *testing.T) { // P27.2
	seen := tally{}
	pools(2720, 1500, func(s edges) { wantNew(t, seen, s) })
	r := rand.New(rand.NewSource(2721))
	for n := range 60 {
		most := 1 + n/20
		wantNew(t, seen, oddEdges(1+r.Intn(3), 1+r.Intn(3), func() num { return oddNum(r, most) }, func() spot { return oddSpot(r, most) }))
	}
	seen.least(t, 30, "told", "ErrNet at once", "ErrNet in the first row", "ErrNet in the last row")
}

// stretched are edges all of whose points are so many times as long.
func stretched(s edges, by *big.Rat) edges { return s.image(stretch(along(by))) }

func TestNewAtTheBound(t *testing.T) { // P27.2
	seen := tally{}
	n := 0
	fits := func(s edges) bool { return mesh{rows: [][]spot{s.row, s.column}}.fits() }
	scales := []*big.Rat{ofInt(twos(8188)), under(twos(8188)), ratio(twos(8188), more(twos(8188), 1)), ofInt(more(twos(8190), -1)), under(more(twos(8190), -1))}
	pools(2722, 250, func(s edges) {
		n++
		if s = stretched(s, scales[n%len(scales)]); fits(s) {
			wantNew(t, seen, s)
		}
	})
	seen.least(t, 10, "told", "ErrBig", "ErrBig behind the first row", "ErrBig ahead of ErrNet", "ErrNet at once")
	seen.least(t, 5, "another one column by column")
	// Of the greatest numbers, and of what is one past.
	for _, x := range []*big.Int{twos(8190), more(twos(8190), -1), more(twos(8189), -1), new(big.Int).Rsh(top(), 1), new(big.Int).Rsh(top(), 2)} {
		for _, s := range []edges{stretched(square(2, 2), ofInt(x)), stretched(square(3, 1), under(x)), stretched(square(1, 2), ratio(x, more(x, 1)))} {
			if fits(s) {
				wantNew(t, seen, s)
			}
		}
	}
}

// One square: points that are the same, though what would come of them would be
// too long; and a row in which one error comes up ahead of the other one.
func TestNewWhichComesFirst(t *testing.T) { // P27.2
	great, twice := at(along(ofInt(twos(8191)))), at(along(ofInt(more(twos(8191), 1))))
	// With infinity ahead, ratio 2: r is 2 q - s.
	bad := edges{a: []num{in(2, 0)}, b: []num{in(1, 0)}, row: []spot{far(), great}, column: []spot{far(), at(great.z.neg())}}
	same := edges{a: bad.a, b: bad.b, row: []spot{far(), great}, column: []spot{far(), great}}
	for _, x := range []struct {
		s    edges
		want api.Errno
	}{
		{bad, api.ErrBig},
		{same, api.ErrNet},
		{edges{a: bad.a, b: bad.b, row: []spot{great, great}, column: []spot{great, twice}}, api.ErrNet},
		{edges{a: bad.a, b: bad.b, row: []spot{great, twice}, column: []spot{great, great}}, api.ErrNet},
		{edges{a: repeated(in(2, 0), 2), b: bad.b, row: []spot{far(), great, great}, column: bad.column}, api.ErrBig}, // the second square has twins
		{edges{a: repeated(in(2, 0), 2), b: bad.b, row: []spot{far(), on(1, 0), on(1, 0)}, column: []spot{far(), on(5, 0)}}, api.ErrNet},
		{edges{a: bad.a, b: repeated(in(1, 0), 2), row: bad.row, column: []spot{far(), on(-1, 0), on(-1, 0)}}, api.ErrBig},        // the second row has twins
		{edges{a: bad.a, b: repeated(in(1, 0), 2), row: []spot{far(), on(2, 0)}, column: []spot{far(), on(1, 0), great}}, api.OK}, // great stands alone
		{edges{a: repeated(in(2, 0), 2), b: repeated(in(1, 0), 2), row: []spot{far(), on(2, 0), on(2, 0)}, column: []spot{far(), great, on(1, 0)}}, api.ErrNet},
	} {
		got, e := nets.New(x.s.sides())
		if e != x.want || (got == nil) != (e != api.OK) {
			t.Errorf("New of %s..: %v, want %v", brief(x.s.row[1].point()), e, x.want)
		}
		wantNew(t, tally{}, x.s)
	}
}

// P27.2: a ratio that is too long to be told, of labels that may be; the corner
// that it tells is not. Label alone refuses it.
func TestNewByLongRatios(t *testing.T) { // P27.2, P27.3
	great := ofInt(top())
	// With infinity ahead r is (a q - b s) / (a - b): here 0.
	long := edges{a: []num{along(great)}, b: []num{parts(1, 2, 0, 1)}, row: []spot{far(), at(parts(1, 2, 0, 1))}, column: []spot{far(), at(along(great))}}
	r := rand.New(rand.NewSource(2723))
	l := []edges{long, long.turned(), long.image(slide(in(-3, 1))), long.image(charted(0, 1, 1, 0)), long.image(charted(0, 1, 1, 0)).image(slide(in(0, 7)))}
	for n := range 4 {
		by := longNum(r, 1024)
		k := unit()
		k.a, k.b = repeated(by, 2), repeated(by.neg(), 2)
		l = append(l, k, k.image(charts()[n])) // the ratio is short, though both labels are long
		d := longNum(r, 1000)
		l = append(l, unit().image(slide(d)), unit().image(chart{a: in(1, 0), b: in(0, 0), c: in(1, 0), d: num{ofInt(full(r, 500)), ofInt(full(r, 500))}}))
	}
	for _, s := range l {
		seen := tally{}
		wantNew(t, seen, s)
		seen.least(t, 1, "told")
	}
	n := long.mesh(t).net(t)
	p, e := n.At(1, 1)
	want(t, "the corner", p, e, on(0, 0).point())
	z, e := n.Label(1, 1)
	wantNone(t, "Label", z, e, api.ErrBig)
}

func TestNewOfManySquares(t *testing.T) { // P27.2
	for _, x := range [][2]int{{64, 64}, {64, 1}, {1, 64}, {63, 64}} {
		s := square(x[0], x[1])
		wantNew(t, tally{}, s)
		wantNew(t, tally{}, s.image(charted(0, 1, 1, 0)))
	}
	// Only the last square of all has twins.
	s := square(64, 64)
	last, _ := nets.New(s.sides())
	p, _ := last.At(63, 64)
	q, _ := last.At(64, 63)
	if p != on(63, 64).point() || q != on(64, 63).point() {
		t.Error("the last corners are", brief(p), brief(q))
	}
	s.row[64] = on(63, 0)
	seen := tally{}
	wantNew(t, seen, s)
	seen.least(t, 1, "ErrNet in the first row")
	s = square(64, 64)
	s.column[64] = on(0, 63)
	seen = tally{}
	wantNew(t, seen, s)
	seen.least(t, 1, "ErrNet in the last row")
}

// long answers whole points and labels beyond MaxSide.
func tooMany(w, h int) api.NetSides { return square(w, h).sides() }

func TestNewOfTooMany(t *testing.T) { // P27.2
	for _, x := range [][2]int{{65, 1}, {1, 65}, {65, 65}, {64, 65}, {65, 64}, {5000, 1}, {1, 5000}, {4097, 4097}} {
		got, e := nets.New(tooMany(x[0], x[1]))
		wantNoNet(t, "New of too many", got, e, api.ErrLong)
		same := tooMany(x[0], x[1]) // ahead of what no net comes of
		same.Row[1] = same.Row[0]
		same.Column[1] = same.Row[0]
		got, e = nets.New(same)
		wantNoNet(t, "New of too many, of which some are the same", got, e, api.ErrLong)
	}
	many := tooMany(100000, 100000) // unlike labels, all of them
	for k := range many.A {
		many.A[k], many.B[k] = in(int64(k)+1, 0).gauss(), in(-int64(k)-1, 0).gauss()
	}
	got, e := nets.New(many)
	wantNoNet(t, "New of very many", got, e, api.ErrLong)
	many.B[99999] = many.A[0]
	got, e = nets.New(many)
	wantNoNet(t, "New of very many, one a a b", got, e, api.ErrArg)
}

// broken goes over sides that are none, for one fault each.
func broken(base api.NetSides, do func(what string, s api.NetSides)) {
	with := func(what string, turn func(s *api.NetSides)) {
		s := api.NetSides{A: slices.Clone(base.A), B: slices.Clone(base.B), Row: slices.Clone(base.Row), Column: slices.Clone(base.Column)}
		turn(&s)
		do(what, s)
	}
	w, h := len(base.A), len(base.B)
	for _, z := range append(wrongNumbers(), in(0, 0).gauss()) {
		for _, k := range []int{0, w - 1} {
			with("a wrong a", func(s *api.NetSides) { s.A[k] = z })
		}
		for _, k := range []int{0, h - 1} {
			with("a wrong b", func(s *api.NetSides) { s.B[k] = z })
		}
		with("wrong labels", func(s *api.NetSides) { s.A[0], s.B[0] = z, z })
	}
	for _, p := range wrongPoints() {
		with("a wrong point of the row", func(s *api.NetSides) { s.Row[w] = p })
		with("a wrong point of the column", func(s *api.NetSides) { s.Column[h] = p })
		with("a wrong first point", func(s *api.NetSides) { s.Row[0], s.Column[0] = p, p })
	}
	for _, i := range []int{0, w / 2, w - 1} {
		for _, j := range []int{0, h / 2, h - 1} {
			with("an a that is a b", func(s *api.NetSides) { s.A[i] = s.B[j] })
			with("a b that is an a", func(s *api.NetSides) { s.B[j] = s.A[i] })
		}
	}
	with("no a", func(s *api.NetSides) { s.A = nil })
	with("no b", func(s *api.NetSides) { s.B = []api.Gauss{} })
	with("no a and one point", func(s *api.NetSides) { s.A, s.Row = nil, s.Row[:1] })
	with("no b and one point", func(s *api.NetSides) { s.B, s.Column = nil, s.Column[:1] })
	with("no labels and one point each", func(s *api.NetSides) { s.A, s.B, s.Row, s.Column = nil, nil, s.Row[:1], s.Column[:1] })
	with("no labels and no points", func(s *api.NetSides) { *s = api.NetSides{} })
	with("no labels and empty lists", func(s *api.NetSides) { *s = api.NetSides{A: s.A[:0], B: s.B[:0], Row: s.Row[:0], Column: s.Column[:0]} })
	with("no row", func(s *api.NetSides) { s.Row = nil })
	with("no column", func(s *api.NetSides) { s.Column = s.Column[:0] })
	with("a point fewer in the row", func(s *api.NetSides) { s.Row = s.Row[:w] })
	with("a point fewer in the column", func(s *api.NetSides) { s.Column = s.Column[:h] })
	with("a point more in the row", func(s *api.NetSides) { s.Row = append(s.Row, on(77, 1).point()) })
	with("a point more in the column", func(s *api.NetSides) { s.Column = append(s.Column, on(77, 1).point()) })
	with("a label more in a", func(s *api.NetSides) { s.A = append(s.A, in(77, 1).gauss()) })
	with("a label more in b", func(s *api.NetSides) { s.B = append(s.B, in(77, 1).gauss()) })
	with("unlike beginnings", func(s *api.NetSides) { s.Row[0] = on(77, 1).point() })
	with("unlike beginnings, infinity", func(s *api.NetSides) { s.Column[0] = api.Point{Inf: true} })
	if w != h {
		with("lists exchanged", func(s *api.NetSides) { s.Row, s.Column = s.Column, s.Row })
	}
}

// P27.2: ErrArg ahead of all else.
func TestNewRefuses(t *testing.T) {
	twins := square(2, 3)
	twins.row[1], twins.column[1] = twins.row[0], twins.row[0]
	big := stretched(square(2, 2), ofInt(twos(8190)))
	for _, s := range []api.NetSides{square(2, 2).sides(), square(1, 1).sides(), twins.sides(), big.sides(), tooMany(65, 2), tooMany(2, 65), tooMany(66, 65)} {
		broken(s, func(what string, s api.NetSides) {
			got, e := nets.New(s)
			wantNoNet(t, "New of "+what, got, e, api.ErrArg)
		})
	}
}

// P27.2: labels of one side may be the same; a and b may have them in any order.
func TestNewOfLikeLabels(t *testing.T) {
	for _, s := range []edges{
		{a: []num{in(1, 0), in(2, 0), in(1, 0)}, b: []num{in(-1, 0), in(-1, 0)}, row: square(3, 2).row, column: square(3, 2).column},
		{a: []num{in(1, 0)}, b: []num{in(-1, 0), in(0, 1), in(-1, 0)}, row: square(1, 3).row, column: square(1, 3).column},
	} {
		wantNew(t, tally{}, s)
		wantNew(t, tally{}, s.image(slide(parts(1, 3, 1, 7))))
	}
}
