package flips_test

import (
	"math/big"
	"math/rand"
	"slices"
	"testing"

	"tracery/api"
	"tracery/flips"
)

// wantRow holds Row against the chapter's words; it wants what is no ErrArg.
func wantRow(t *testing.T, seen tally, x row, by num, first spot) {
	t.Helper()
	got, e := flips.Row(points(x.points), gausses(x.labels), by.gauss(), first.point())
	l, no := x.flipped(by, first)
	if len(no) > 0 {
		wantNoPoints(t, "Row of what can't be flipped", got, e, no[0])
	} else {
		wantPoints(t, "Row", got, e, points(l))
	}
	switch {
	case len(no) == 0:
		seen["told"]++
		if slices.ContainsFunc(l[1:], far().same) {
			seen["infinity came out"]++
		}
		if slices.ContainsFunc(x.points, far().same) {
			seen["infinity among the points"]++
		}
		if first.inf {
			seen["infinity first"]++
		}
	case no[0] == api.ErrNet && !unlike(x.points[0], x.points[1], first):
		seen["ErrNet at once"]++
	case no[0] == api.ErrNet:
		seen["ErrNet further on"]++
	case no[len(no)-1] == api.ErrNet:
		seen["ErrBig ahead of ErrNet"]++
	default:
		seen["ErrBig"]++
	}
}

// oddRow makes rows of so many points at most.
func oddRow(r *rand.Rand, most int, label func() num, next func() spot) row {
	x := row{points: []spot{next()}}
	for range r.Intn(most) {
		x.points, x.labels = append(x.points, next()), append(x.labels, goingWith(nil, label))
	}
	return x
}

// rows makes rows of all kinds, with numbers that go with them and first points.
func rows(seed int64, count int, do func(x row, by num, first spot)) {
	r := rand.New(rand.NewSource(seed))
	label, next := func() num { return smallLabel(r) }, func() spot { return pooled(r) }
	for range count {
		x := oddRow(r, 6, label, next)
		do(x, goingWith(x.labels, label), next())
	}
	for n := range count / 10 {
		most := 1 + n%9
		label, next := func() num { return oddNum(r, most) }, func() spot { return oddSpot(r, most) }
		x := oddRow(r, 4, label, next)
		do(x, goingWith(x.labels, label), next())
	}
}

func TestRow(t *testing.T) { // P28.1
	seen := tally{}
	rows(2810, 1500, func(x row, by num, first spot) { wantRow(t, seen, x, by, first) })
	seen.least(t, 30, "told", "ErrNet at once", "ErrNet further on", "infinity among the points", "infinity first")
	seen.least(t, 10, "infinity came out")
}

// scales bring whole and broken numbers to both sides of the bound.
func scales() []*big.Rat {
	return []*big.Rat{ofInt(twos(8188)), under(twos(8188)), ratio(twos(8188), more(twos(8188), 1)), ofInt(more(twos(8190), -1)), under(more(twos(8190), -1)), ofInt(twos(8186))}
}

func TestRowAtTheBound(t *testing.T) { // P28.1
	seen := tally{}
	n := 0
	rows(2811, 600, func(x row, by num, first spot) {
		n++
		m := stretch(along(scales()[n%len(scales())]))
		x.points = images(m, x.points)
		if first = m.at(first); first.fits() && allFit(x.points) {
			wantRow(t, seen, x, by, first)
		}
	})
	seen.least(t, 10, "told", "ErrBig", "ErrBig ahead of ErrNet", "ErrNet at once", "ErrNet further on")
	// Of infinity, q and s and the ratio 2 the last corner is 2 q - s.
	half := twos(8191)
	for _, q := range []*big.Int{half, more(half, -1), more(half, 1)} {
		for _, s := range []int64{-1, 0, 1, 2, 3} {
			for _, by := range []num{in(1, 0), in(0, 1), in(-1, 0)} {
				wantRow(t, seen, row{[]spot{far(), at(along(ofInt(q)).times(by))}, []num{in(2, 0)}}, in(1, 0), at(in(s, 0).times(by)))
			}
		}
	}
}

// Which of both errors comes up first, in one row and in one square.
func TestRowWhichComesFirst(t *testing.T) { // P28.1
	great := at(along(ofInt(twos(8191))))
	other, less := at(along(ofInt(more(twos(8191), 1)))), at(great.z.neg())
	two := func(count int) []num { return repeated(in(2, 0), count) }
	for k, x := range []struct {
		points []spot
		first  spot
		want   api.Errno
	}{
		{[]spot{far(), great}, less, api.ErrBig},
		{[]spot{far(), great}, great, api.ErrNet},
		{[]spot{far(), great}, far(), api.ErrNet},
		{[]spot{far(), far()}, great, api.ErrNet},
		{[]spot{great, other}, great, api.ErrNet},
		{[]spot{great, other}, other, api.ErrNet},
		{[]spot{great, great}, other, api.ErrNet},
		{[]spot{great, great}, great, api.ErrNet},
		{[]spot{far(), great, great}, less, api.ErrBig},
		{[]spot{far(), great, far(), far()}, less, api.ErrBig},
		{[]spot{far(), far(), great}, less, api.ErrNet},
		{[]spot{on(0, 0), on(1, 0), on(1, 0)}, on(0, 1), api.ErrNet},
		{[]spot{on(0, 0), on(1, 0), on(2, 0), on(2, 0), on(3, 0)}, on(0, 1), api.ErrNet},
		{[]spot{on(0, 0), on(1, 0), on(1, 0)}, on(1, 0), api.ErrNet},
		{[]spot{on(0, 0), on(1, 0), on(1, 0)}, on(0, 0), api.ErrNet},
		{[]spot{far(), on(1, 0), on(4, 0)}, on(-2, 0), api.ErrNet}, // 2 - -2 is 4: one of the next ones
		{[]spot{far(), on(1, 0), far(), great}, on(-2, 0), api.ErrBig},
		{[]spot{on(0, 0)}, on(0, 0), api.OK},
		{[]spot{on(0, 0), on(7, 0), on(0, 0)}, on(1, 0), api.OK}, // not one behind the other
	} {
		labels := two(len(x.points) - 1)
		got, e := flips.Row(points(x.points), gausses(labels), in(1, 0).gauss(), x.first.point())
		if e != x.want || e != api.OK && got != nil {
			t.Errorf("%d: %v, want %v", k, e, x.want)
		}
		wantRow(t, tally{}, row{x.points, labels}, in(1, 0), x.first)
	}
}

// lengthy are rows of two points whose label over by is too long to be told,
// while 0, and what maps make of it, comes out: of infinity, q and s it is
// (a q - l s) / (a - l).
func lengthy() (x row, by num, first spot) {
	return row{[]spot{far(), at(parts(1, 2, 0, 1))}, []num{along(ofInt(top()))}}, parts(1, 2, 0, 1), at(along(ofInt(top())))
}

func TestRowByLongRatios(t *testing.T) { // P28.1
	seen := tally{}
	x, by, first := lengthy()
	if x.labels[0].over(by).fits() {
		t.Fatal("the ratio is short")
	}
	got, e := flips.Row(points(x.points), gausses(x.labels), by.gauss(), first.point())
	wantPoints(t, "Row", got, e, []api.Point{first.point(), on(0, 0).point()})
	for _, m := range []chart{slide(in(-3, 1)), charted(0, 1, 1, 0), {in(1, 0), in(0, 1), in(1, 0), in(0, 0)}} {
		wantRow(t, seen, row{images(m, x.points), x.labels}, by, m.at(first))
	}
	// Both are long, and the ratio short; points far off, near each other.
	r := rand.New(rand.NewSource(2812))
	for _, m := range charts() {
		z, d := longNum(r, 1023), longNum(r, 900)
		l := row{images(m, straight(4, in(1, 0))), []num{z, z.neg(), z}}
		wantRow(t, seen, l, z.scaled(rat(2, 1)), m.at(on(0, 1)))
		l = row{images(slide(d), straight(4, in(1, 0))), []num{in(1, 0), in(0, 1), in(-2, 0)}}
		wantRow(t, seen, l, in(2, 0), slide(d).at(on(0, 1)))
	}
	seen.least(t, 15, "told")
}

// alternating is a row of so many points that goes to and fro.
func alternating(count int, p, q spot) row {
	x := row{points: []spot{p}}
	for len(x.points) < count {
		p, q = q, p
		x.points, x.labels = append(x.points, p), append(x.labels, in(3, 0))
	}
	return x
}

// P28.1: MaxList points go, one more does not; ahead of what follows.
func TestRowOfManyPoints(t *testing.T) {
	wantRow(t, tally{}, alternating(api.MaxList, on(0, 0), on(1, 1)), in(2, 0), on(0, 5))
	same := alternating(api.MaxList, on(0, 0), on(1, 1))
	same.points[api.MaxList-1] = same.points[api.MaxList-2]
	wantRow(t, tally{}, same, in(2, 0), on(0, 5))
	for _, count := range []int{api.MaxList + 1, api.MaxList + 2, 3 * api.MaxList} {
		for _, x := range []row{alternating(count, on(0, 0), on(1, 1)), alternating(count, on(1, 1), on(1, 1)), alternating(count, far(), at(along(ofInt(top()))))} {
			for _, first := range []spot{on(0, 5), x.points[0], x.points[1]} {
				got, e := flips.Row(points(x.points), gausses(x.labels), in(2, 0).gauss(), first.point())
				wantNoPoints(t, "Row of too many", got, e, api.ErrLong)
			}
		}
	}
}

func TestRowOfOnePoint(t *testing.T) { // P28.1
	for _, p := range []spot{on(0, 0), far(), at(along(ofInt(top())))} {
		for _, q := range []spot{on(0, 0), far(), at(parts(1, 3, -1, 7)), at(along(under(top())))} {
			for _, labels := range [][]api.Gauss{nil, {}} {
				for _, by := range []num{in(1, 0), in(0, -1), along(ofInt(top()))} {
					got, e := flips.Row([]api.Point{p.point()}, labels, by.gauss(), q.point())
					wantPoints(t, "Row of one point", got, e, []api.Point{q.point()})
				}
			}
		}
	}
}

// noRows goes over what is no row, or a number that does not go with it, for one
// fault each.
func noRows(x row, by num, do func(what string, points []api.Point, labels []api.Gauss, by api.Gauss)) {
	some, labels := points(x.points), gausses(x.labels)
	with := func(what string, turn func(p *[]api.Point, l *[]api.Gauss, by *api.Gauss)) {
		p, l, by := slices.Clone(some), slices.Clone(labels), by.gauss()
		turn(&p, &l, &by)
		do(what, p, l, by)
	}
	for _, z := range wrongLabels() {
		for _, k := range []int{0, len(x.labels) / 2, len(x.labels) - 1} {
			with("a wrong label", func(_ *[]api.Point, l *[]api.Gauss, _ *api.Gauss) { (*l)[k] = z })
		}
		with("a wrong number", func(_ *[]api.Point, _ *[]api.Gauss, by *api.Gauss) { *by = z })
		with("a wrong number that is a label", func(_ *[]api.Point, l *[]api.Gauss, by *api.Gauss) { *by, (*l)[0] = z, z })
	}
	for _, q := range wrongPoints() {
		for _, k := range []int{0, len(x.points) / 2, len(x.points) - 1} {
			with("a wrong point", func(p *[]api.Point, _ *[]api.Gauss, _ *api.Gauss) { (*p)[k] = q })
		}
	}
	for _, k := range []int{0, len(x.labels) / 2, len(x.labels) - 1} {
		with("a label", func(_ *[]api.Point, l *[]api.Gauss, by *api.Gauss) { *by = (*l)[k] })
		with("a label that is the number", func(_ *[]api.Point, l *[]api.Gauss, by *api.Gauss) { (*l)[k] = *by })
	}
	with("no points", func(p *[]api.Point, _ *[]api.Gauss, _ *api.Gauss) { *p = nil })
	with("no points and no labels", func(p *[]api.Point, l *[]api.Gauss, _ *api.Gauss) { *p, *l = nil, nil })
	with("no points and no labels", func(p *[]api.Point, l *[]api.Gauss, _ *api.Gauss) { *p, *l = (*p)[:0], (*l)[:0] })
	with("no points and one label", func(p *[]api.Point, l *[]api.Gauss, _ *api.Gauss) { *p, *l = nil, (*l)[:1] })
	with("no labels", func(_ *[]api.Point, l *[]api.Gauss, _ *api.Gauss) { *l = nil })
	with("as many labels as points", func(p *[]api.Point, _ *[]api.Gauss, _ *api.Gauss) { *p = (*p)[1:] })
	with("as many labels as points", func(_ *[]api.Point, l *[]api.Gauss, _ *api.Gauss) { *l = append(*l, (*l)[0]) })
	with("a label too few", func(_ *[]api.Point, l *[]api.Gauss, _ *api.Gauss) { *l = (*l)[1:] })
	with("a point too many", func(p *[]api.Point, _ *[]api.Gauss, _ *api.Gauss) { *p = append(*p, on(77, 1).point()) })
	with("one point and one label", func(p *[]api.Point, l *[]api.Gauss, _ *api.Gauss) { *p, *l = (*p)[:1], (*l)[:1] })
}

// refusedRows are rows that are refused for something else, too.
func refusedRows() []row {
	return []row{
		{straight(3, in(1, 0)), repeated(in(1, 0), 2)},
		{[]spot{on(0, 0), on(0, 0), on(0, 0)}, repeated(in(1, 0), 2)},
		{[]spot{far(), at(along(ofInt(twos(8191)))), on(0, 0)}, repeated(in(4, 0), 2)},
		alternating(api.MaxList+1, on(0, 0), on(1, 0)),
		alternating(api.MaxList+2, on(0, 0), on(0, 0)),
	}
}

// P28.1: ErrArg, ahead of all else.
func TestRowRefuses(t *testing.T) {
	t.Parallel()
	for _, x := range refusedRows() {
		for _, first := range []api.Point{on(0, 1).point(), on(0, 0).point()} {
			noRows(x, in(2, 0), func(what string, points []api.Point, labels []api.Gauss, by api.Gauss) {
				got, e := flips.Row(points, labels, by, first)
				wantNoPoints(t, "Row of "+what, got, e, api.ErrArg)
			})
		}
		for _, q := range wrongPoints() {
			got, e := flips.Row(points(x.points), gausses(x.labels), in(2, 0).gauss(), q)
			wantNoPoints(t, "Row with a wrong first point", got, e, api.ErrArg)
		}
	}
	one := []api.Point{on(0, 0).point()} // of one point, too
	for _, z := range wrongLabels() {
		got, e := flips.Row(one, nil, z, on(0, 1).point())
		wantNoPoints(t, "Row of one point by a wrong number", got, e, api.ErrArg)
	}
	for _, q := range wrongPoints() {
		got, e := flips.Row(one, nil, in(2, 0).gauss(), q)
		wantNoPoints(t, "Row of one point with a wrong first one", got, e, api.ErrArg)
		got, e = flips.Row([]api.Point{q}, nil, in(2, 0).gauss(), on(0, 1).point())
		wantNoPoints(t, "Row of one wrong point", got, e, api.ErrArg)
	}
}
