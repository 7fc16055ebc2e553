package cross_test

import (
	"math/big"
	"math/rand"
	"slices"
	"testing"

	"tracery/api"
	"tracery/cross"
)

func round(l [4]api.Point) (bool, api.Errno) { return cross.Round(l[0], l[1], l[2], l[3]) }

func wantRound(t *testing.T, l four, wanted bool) {
	t.Helper()
	if got, e := round(l.points()); got != wanted || e != api.OK {
		t.Fatalf("round are%s: %v, %v", briefs(pick(l)...), got, e)
	}
}

func TestRound(t *testing.T) { // P10.4
	rows(func(l four) {
		wantRound(t, l, l.round())
		if !l.unlike() {
			wantRound(t, l, true)
		}
	})
}

func TestRoundExamples(t *testing.T) { // P10.4
	for _, x := range []struct {
		l    four
		want bool
	}{
		{four{on(0, 0), on(1, 0), on(0, 1), on(1, 1)}, true}, {four{on(0, 0), on(1, 0), on(2, 0), on(0, 1)}, false},
		{four{on(0, 0), on(0, 0), on(1, 0), on(0, 5)}, true}, {four{on(0, 0), on(1, 0), far(), on(-7, 0)}, true},
		{four{on(0, 0), on(1, 0), far(), on(0, 1)}, false}, {four{on(1, 1), on(2, 2), on(-3, -3), far()}, true}, {four{on(1, 1), on(2, 2), on(-3, -3), on(5, 4)}, false},
		{four{on(3, 4), on(-5, 0), on(0, 5), on(4, -3)}, true}, {four{on(3, 4), on(-5, 0), on(0, 5), far()}, false},
		{four{far(), far(), far(), far()}, true}, {four{on(2, 1), on(2, 1), on(2, 1), on(0, 0)}, true}, {four{far(), on(2, 1), far(), far()}, true},
		{four{far(), on(2, 1), far(), on(0, 1)}, true}, {four{on(1, 0), far(), far(), on(0, 1)}, true},
	} {
		for _, order := range permutations() {
			wantRound(t, x.l.ordered(order), x.want)
		}
	}
}

// turned are points of the circle about 0 with the radius 1 whose parts have
// twice as many bytes.
func turned(r *rand.Rand, count int) spot {
	x := full(r, count)
	z := num{ofInt(x.Denom()), ofInt(x.Num())}
	return at(z.over(z.conj()))
}

// nudged is the point, a very little to the side of where it was.
func nudged(t *testing.T, p spot) spot {
	t.Helper()
	moved := num{plus(p.z.re, under(p.z.re.Denom())), p.z.im}
	if !moved.fits() {
		t.Fatal("a point that is moved is too long")
	}
	return at(moved)
}

// Numbers as long as may be are told, whatever comes up on the way.
func TestRoundLong(t *testing.T) { // P10.4
	r := rand.New(rand.NewSource(1041))
	half := api.MaxWhole/2 - 1
	for range 6 {
		l := four{turned(r, half), turned(r, half), turned(r, half), turned(r, half)}
		wantRound(t, l, true)
		l[r.Intn(4)] = on(0, -1)
		wantRound(t, l, true)
		k := r.Intn(4)
		l[k] = nudged(t, turned(r, half))
		wantRound(t, l, false)
		l[k] = far()
		wantRound(t, l, false)
		l[k] = l[(k+1)%4]
		wantRound(t, l, true)

		l = fullReals(r, api.MaxWhole)
		wantRound(t, l, true)
		for k := range l {
			l[k] = at(num{l[k].z.re, l[k].z.re})
		}
		wantRound(t, l, true)
		l[r.Intn(4)] = far()
		wantRound(t, l, true)
		wantRound(t, fullFour(r, api.MaxWhole), false)
		k = r.Intn(4)
		l = fullReals(r, api.MaxWhole)
		l[k] = at(num{l[k].z.re, under(top())})
		wantRound(t, l, false)
	}
}

func TestRoundRefusesWrongOnes(t *testing.T) { // P10.4
	withWrong(func(l [4]api.Point) {
		if got, e := round(l); got || e != api.ErrArg {
			t.Fatalf("round are wrong ones: %v, %v", got, e)
		}
	})
}

func turns(l [4]api.Point) ([]api.Point, api.Errno) { return cross.Turns(l[0], l[1], l[2], l[3]) }

// ratios are those of all 24 orders, rising, each once.
func (l four) ratios() []spot {
	var all []spot
	for _, order := range permutations() {
		ratio := l.ordered(order).ratio()
		if !slices.ContainsFunc(all, ratio.same) {
			all = append(all, ratio)
		}
	}
	slices.SortFunc(all, func(p, q spot) int {
		if p.ahead(q) {
			return -1
		}
		return 1
	})
	return all
}

func wantTurns(t *testing.T, l four) {
	t.Helper()
	got, e := turns(l.points())
	if l.threeSame() {
		wantNoTurns(t, l, got, e, api.ErrSame)
		return
	}
	var wanted []api.Point
	for _, p := range l.ratios() {
		if !p.fits() {
			wantNoTurns(t, l, got, e, api.ErrBig)
			return
		}
		wanted = append(wanted, p.point())
	}
	if !slices.Equal(got, wanted) || e != api.OK {
		t.Fatalf("the turns of%s are%s, %v, want%s", briefs(pick(l)...), briefs(got...), e, briefs(wanted...))
	}
}

func wantNoTurns(t *testing.T, l four, got []api.Point, e, wanted api.Errno) {
	t.Helper()
	if len(got) != 0 || e != wanted {
		t.Fatalf("the turns of%s are%s, %v, want nothing and %v", briefs(pick(l)...), briefs(got...), e, wanted)
	}
}

func TestTurns(t *testing.T) { // P10.6
	k := 0
	rows(func(l four) {
		if k++; k%3 == 0 || !l.unlike() && k%2 == 0 {
			wantTurns(t, l)
		}
	})
}

func TestTurnsExamples(t *testing.T) { // P10.6
	ratio := func(num, den int64) spot { return at(real(big.NewRat(num, den))) }
	for _, x := range []struct {
		l    four
		want []spot
	}{
		{four{on(0, 0), on(1, 0), on(2, 0), on(3, 0)}, []spot{ratio(-3, 1), ratio(-1, 3), ratio(1, 4), ratio(3, 4), ratio(4, 3), ratio(4, 1)}},
		{four{on(0, 0), on(1, 0), far(), on(-1, 0)}, []spot{ratio(-1, 1), ratio(1, 2), ratio(2, 1)}},
		{four{on(0, 0), on(0, 0), on(1, 0), on(2, 0)}, []spot{on(0, 0), on(1, 0), far()}},
		{four{far(), on(3, 0), far(), on(2, 0)}, []spot{on(0, 0), on(1, 0), far()}},
		{four{on(0, 3), on(2, 0), on(2, 0), on(0, 3)}, []spot{on(0, 0), on(1, 0), far()}},
		{four{far(), on(1, 0), on(0, 0), on(0, 1)}, []spot{on(0, -1), on(0, 1), at(num{big.NewRat(1, 2), big.NewRat(-1, 2)}), at(num{big.NewRat(1, 2), big.NewRat(1, 2)}), on(1, -1), on(1, 1)}},
	} {
		for _, order := range permutations() {
			l := x.l.ordered(order)
			var wanted []api.Point
			for _, p := range x.want {
				wanted = append(wanted, p.point())
			}
			if got, e := turns(l.points()); !slices.Equal(got, wanted) || e != api.OK {
				t.Errorf("the turns of%s are%s, %v", briefs(pick(l)...), briefs(got...), e)
			}
		}
	}
}

func TestTurnsAtTheBound(t *testing.T) { // P10.6
	k := 0
	brink(func(l four) {
		if k++; k%9 == 0 {
			wantTurns(t, l)
		}
	})
	// Of infinity, 1, 0, d one of them is d, another one 1 less d, another one
	// 1 over that: of d = y i it has 1 and the square of y below the line.
	least := at(real(opposite(ofInt(top()))))
	for _, x := range []struct {
		d    spot
		want api.Errno
	}{
		{at(real(ofInt(top()))), api.OK}, {least, api.ErrBig}, {at(real(under(top()))), api.OK}, {at(real(opposite(under(top())))), api.ErrBig},
		{at(num{none(), ofInt(twos(4095))}), api.OK}, {at(num{none(), ofInt(twos(4096))}), api.ErrBig},
	} {
		for _, order := range permutations() {
			l := four{far(), on(1, 0), on(0, 0), x.d}.ordered(order)
			if got, e := turns(l.points()); e != x.want || (len(got) != 0) != (e == api.OK) {
				t.Fatalf("the turns of%s: %v, want %v", briefs(pick(l)...), e, x.want)
			}
		}
		wantTurns(t, four{far(), on(1, 0), on(0, 0), x.d})
	}
	// The ratio of the row as it stands may be, while another one may not.
	if got, e := ratio((four{far(), on(1, 0), on(0, 0), least}).points()); got != least.point() || e != api.OK {
		t.Errorf("the ratio of a row whose turns are too long: %s, %v", brief(got), e)
	}
	// Of two that are the same no ratio is long.
	r := rand.New(rand.NewSource(1061))
	l := fullFour(r, api.MaxWhole)
	l[r.Intn(2)] = l[2+r.Intn(2)]
	wantTurns(t, l)
}

func TestTurnsLongOnTheWay(t *testing.T) { // P10.6
	longOnTheWay(func(l four, short four) {
		wanted, _ := turns(short.points())
		if got, e := turns(l.points()); len(got) == 0 || !slices.Equal(got, wanted) || e != api.OK {
			t.Fatalf("the short turns of long points are%s, %v", briefs(got...), e)
		}
	})
}

func TestTurnsRefuses(t *testing.T) { // P10.6
	withWrong(func(l [4]api.Point) {
		if got, e := turns(l); len(got) != 0 || e != api.ErrArg {
			t.Fatalf("the turns of a wrong one are%s, %v", briefs(got...), e)
		}
	})
	r := rand.New(rand.NewSource(1062))
	for _, p := range append(near0(), at(fullNum(r, api.MaxWhole))) {
		for k := range 4 {
			l := four{p, p, p, p}
			wantTurns(t, l)
			l[k] = at(fullNum(r, api.MaxWhole))
			wantTurns(t, l)
		}
	}
}

// What is told is new each time, its spare room included.
func TestTurnsAreNew(t *testing.T) { // P10.6
	l := four{on(0, 0), on(1, 0), on(2, 1), on(3, 0)}
	first, _ := turns(l.points())
	kept := slices.Clone(first)
	second, _ := turns(l.points())
	for k := range first[:cap(first)] {
		first[:cap(first)][k] = api.Point{Inf: true}
	}
	if third, e := turns(l.points()); !slices.Equal(second, kept) || !slices.Equal(third, kept) || e != api.OK {
		t.Errorf("the turns, written over, are%s and%s, %v", briefs(second...), briefs(third...), e)
	}
}

// alike goes by the map that three unlike points tell.
func alike(p, q four) (bool, bool) {
	if p.same() != q.same() {
		return false, false
	}
	if !p.unlike() {
		return true, true
	}
	level, back := charted([3]spot{p[0], p[1], p[2]}), charted([3]spot{q[0], q[1], q[2]}).inverse()
	return back.at(level.at(p[3])).same(q[3]), back.at(level.at(p[3]).conj()).same(q[3])
}

func wantAlike(t *testing.T, p, q four) {
	t.Helper()
	got, turned, e := cross.Alike(p.points(), q.points())
	if p.threeSame() || q.threeSame() {
		if got || turned || e != api.ErrSame {
			t.Fatalf("alike are%s and%s: %v, %v, %v", briefs(pick(p)...), briefs(pick(q)...), got, turned, e)
		}
		return
	}
	if is, isTurned := alike(p, q); got != is || turned != isTurned || e != api.OK {
		t.Fatalf("alike are%s and%s: %v, %v, %v, want %v, %v", briefs(pick(p)...), briefs(pick(q)...), got, turned, e, is, isTurned)
	}
}

// few are all rows of three points.
func few(a, b, c spot) []four {
	var l []four
	pool := [3]spot{a, b, c}
	for n := range 81 {
		l = append(l, four{pool[n/27], pool[n/9%3], pool[n/3%3], pool[n%3]})
	}
	return l
}

func TestAlikeWithSomeTheSame(t *testing.T) { // P10.7
	for _, p := range few(far(), on(0, 0), on(1, 1)) {
		for _, q := range few(on(2, 0), far(), on(1, -1)) {
			wantAlike(t, p, q)
		}
		wantAlike(t, p, four{on(0, 0), on(1, 0), far(), on(5, 1)})
		wantAlike(t, four{on(0, 0), on(1, 0), far(), on(5, 1)}, p)
	}
}

func TestAlike(t *testing.T) { // P10.7
	r := rand.New(rand.NewSource(1071))
	row := four{on(0, 0), on(1, 0), far(), on(2, 1)}
	flat := four{on(0, 0), on(3, 0), far(), on(2, 0)}
	for _, order := range permutations() {
		for _, other := range permutations() {
			wantAlike(t, row.ordered(order), row.ordered(other))
			wantAlike(t, flat.ordered(order), flat.ordered(other))
		}
	}
	k := 0
	rows(func(l four) {
		if k++; k%4 != 0 {
			return
		}
		m := oddChart(r, 3)
		wantAlike(t, l, m.images(l))
		wantAlike(t, m.images(l), l)
		other := l
		other[r.Intn(4)] = oddSpot(r, 3)
		wantAlike(t, l, m.images(other))
		wantAlike(t, l, oddFour(r, 3))
	})
}

func TestAlikeExamples(t *testing.T) { // P10.7
	for _, x := range []struct {
		p, q        four
		one, turned bool
	}{
		{four{on(0, 0), on(1, 0), on(2, 0), on(0, 1)}, four{on(0, 0), on(1, 0), on(2, 0), on(0, -1)}, false, true},
		{four{on(0, 0), on(1, 0), on(2, 0), on(3, 0)}, four{on(5, 0), on(6, 0), on(7, 0), on(8, 0)}, true, true},
		{four{on(0, 0), on(1, 0), on(2, 0), on(0, 1)}, four{on(0, 0), on(1, 0), on(2, 0), on(0, 1)}, true, false},
		{four{on(0, 0), on(1, 0), on(2, 0), on(0, 1)}, four{on(0, 0), on(1, 0), on(2, 0), on(0, 2)}, false, false},
		{four{on(0, 0), on(1, 0), far(), on(0, 1)}, four{far(), on(1, 0), on(0, 0), on(0, -1)}, true, false},
		// Ratios that are the same, but not of the same places.
		{four{on(0, 0), on(0, 0), on(1, 0), on(2, 0)}, four{on(1, 0), on(2, 0), on(0, 0), on(0, 0)}, false, false},
		{four{on(0, 0), on(0, 0), on(1, 0), on(2, 0)}, four{on(0, 0), on(0, 0), on(1, 0), on(1, 0)}, false, false},
		{four{on(1, 0), on(0, 0), on(0, 0), on(2, 0)}, four{on(0, 0), on(1, 0), on(2, 0), on(0, 0)}, false, false},
		{four{on(0, 0), on(1, 0), on(0, 0), on(2, 0)}, four{on(1, 0), on(0, 0), on(2, 0), on(0, 0)}, false, false},
		{four{on(0, 0), on(0, 0), on(1, 0), on(2, 0)}, four{far(), far(), on(0, 1), on(9, 0)}, true, true},
		{four{on(0, 0), on(0, 0), on(1, 0), on(1, 0)}, four{far(), far(), on(0, 1), on(0, 1)}, true, true},
		{four{on(0, 0), on(1, 0), on(0, 0), on(1, 0)}, four{far(), far(), on(0, 1), on(0, 1)}, false, false},
	} {
		if one, turned, e := cross.Alike(x.p.points(), x.q.points()); one != x.one || turned != x.turned || e != api.OK {
			t.Errorf("alike are%s and%s: %v, %v, %v", briefs(pick(x.p)...), briefs(pick(x.q)...), one, turned, e)
		}
	}
}

// each does something to all numbers of a row.
func each(l four, do func(z num) num) four {
	for k, p := range l {
		if !p.inf {
			l[k] = at(do(p.z))
		}
	}
	return l
}

// Numbers as long as may be are told, whatever comes up on the way.
func TestAlikeLong(t *testing.T) { // P10.7
	r := rand.New(rand.NewSource(1072))
	check := func(p, q four, one, turned bool) {
		t.Helper()
		if !p.fits() || !q.fits() {
			t.Fatal("a row is too long")
		}
		if got, gotTurned, e := cross.Alike(p.points(), q.points()); got != one || gotTurned != turned || e != api.OK {
			t.Fatalf("alike are long rows: %v, %v, %v, want %v, %v", got, gotTurned, e, one, turned)
		}
	}
	for range 4 {
		l := fullFour(r, api.MaxWhole)
		if r.Intn(2) == 0 {
			l[r.Intn(4)] = far()
		}
		check(l, l, true, false)
		check(l, each(l, num.conj), false, true)
		check(l, each(l, num.neg), true, false)
		check(l, each(l, func(z num) num { return num{z.im, z.re} }), false, true)
		check(l, fullFour(r, api.MaxWhole), false, false)
		l = fullReals(r, api.MaxWhole)
		check(l, each(l, num.neg), true, true)
		check(l, each(l, func(z num) num { return num{none(), z.re} }), true, true)
		check(l, each(l, func(z num) num { return in(1, 0).over(z) }), true, true)
		l = fullFour(r, api.MaxWhole-1)
		moved := l
		k := r.Intn(4)
		moved[k] = nudged(t, l[k])
		check(l, moved, false, false)
		check(l, each(moved, num.conj), false, false)
		l[k] = l[(k+2)%4]
		moved[k] = moved[(k+2)%4]
		check(l, moved, true, true)
	}
	longOnTheWay(func(l, short four) {
		wantAlike(t, short, l)
		wantAlike(t, each(l, num.conj), short)
	})
}

func TestAlikeRefuses(t *testing.T) { // P10.7
	good, same := four{on(0, 0), on(1, 0), far(), on(2, 1)}.points(), four{far(), far(), on(1, 0), far()}.points()
	refused := func(p, q [4]api.Point, wanted api.Errno) {
		t.Helper()
		if one, turned, e := cross.Alike(p, q); one || turned || e != wanted {
			t.Fatalf("alike are%s and%s: %v, %v, %v, want %v", briefs(p[:]...), briefs(q[:]...), one, turned, e, wanted)
		}
	}
	withWrong(func(l [4]api.Point) {
		refused(l, good, api.ErrArg)
		refused(good, l, api.ErrArg)
		refused(l, same, api.ErrArg)
		refused(same, l, api.ErrArg)
		refused(l, l, api.ErrArg)
	})
	for _, p := range near0() {
		for k := range 4 {
			l := four{p, p, p, p}
			refused(l.points(), good, api.ErrSame)
			l[k] = on(7, 7)
			refused(l.points(), good, api.ErrSame)
			refused(good, l.points(), api.ErrSame)
			refused(l.points(), l.points(), api.ErrSame)
			refused(same, l.points(), api.ErrSame)
		}
	}
}
