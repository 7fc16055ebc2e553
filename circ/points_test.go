package circ_test

import (
	"math/rand"
	"slices"
	"testing"

	"tracery/api"
	"tracery/circ"
)

func wantThrough(t *testing.T, p, q, r spot) {
	t.Helper()
	got, e := circ.Through(p.point(), q.point(), r.point())
	what := "the circle through" + briefs(p.point(), q.point(), r.point())
	if twins(p, q, r) {
		wantNone(t, what, got, e, api.ErrTwins)
		return
	}
	want(t, what, got, e, through(p, q, r))
}

func TestThrough(t *testing.T) { // P11.2
	threes(func(p, q, r spot) { wantThrough(t, p, q, r) })
	for _, x := range []struct {
		p, q, r spot
		want    ring
	}{
		{on(1, 0), on(0, 1), on(-1, 0), unit()}, {on(0, 0), on(1, 0), far(), reals()}, {far(), on(-5, 0), on(3, 0), reals()}, {on(0, 0), on(1, 0), on(2, 0), reals()},
		{on(1, 0), far(), on(1, 5), ringed(0, 1, 0, -2)}, {on(0, 0), on(1, 1), on(2, 2), ringed(0, 1, 1, 0)}, {on(0, 0), on(2, 0), on(1, 1), ringed(1, -1, 0, 0)},
	} {
		got, e := circ.Through(x.p.point(), x.q.point(), x.r.point())
		want(t, "the circle through"+briefs(pointsOf(x.p, x.q, x.r)...), got, e, x.want)
	}
}

func TestThroughAtTheBound(t *testing.T) { // P11.2
	r := rand.New(rand.NewSource(1120))
	seen := sides{}
	check := func(l [3]spot) {
		t.Helper()
		seen.count(through(l[0], l[1], l[2]).fits())
		wantThrough(t, l[0], l[1], l[2])
	}
	for k := range 60 {
		count := 82 + k/6
		check([3]spot{at(fullNum(r, count)), at(fullNum(r, count)), at(fullNum(r, count))})
		l := [3]spot{at(fullNum(r, 2*count)), at(fullNum(r, 2*count)), at(fullNum(r, 2*count))}
		l[k%3] = far()
		check(l)
	}
	seen.both(t)
	bound, next := ofInt(edge()), ofInt(less(edge(), 1))
	for _, x := range []struct {
		p, q, r spot
		want    api.Errno
	}{
		{far(), at(real(bound)), at(num{bound, rat(1, 1)}), api.ErrBig}, {far(), at(real(next)), at(num{next, rat(1, 1)}), api.OK},
		{far(), at(num{none(), bound}), at(num{rat(1, 1), bound}), api.ErrBig}, {at(num{none(), next}), far(), at(num{rat(1, 1), next}), api.OK},
		{on(0, 0), on(0, 1), at(real(ofInt(top()))), api.OK}, {on(1, 0), on(0, 1), at(real(ofInt(top()))), api.OK}, {on(0, 1), on(1, 1), at(num{none(), opposite(under(top()))}), api.OK}, {on(0, 2), on(1, 0), at(real(ofInt(top()))), api.ErrBig},
	} {
		wantThrough(t, x.p, x.q, x.r)
		if _, e := circ.Through(x.p.point(), x.q.point(), x.r.point()); e != x.want {
			t.Errorf("the circle through%s: %v, want %v", briefs(pointsOf(x.p, x.q, x.r)...), e, x.want)
		}
	}
}

// What is long on the way alone is not refused.
func TestThroughLongPoints(t *testing.T) { // P11.2
	r := rand.New(rand.NewSource(1121))
	for range 4 {
		got, e := circ.Through(at(onUnit(r, 1000)).point(), at(onUnit(r, 1000)).point(), at(onUnit(r, 1000)).point())
		want(t, "the circle through long points of the unit circle", got, e, unit())
		got, e = circ.Through(at(real(full(r, 1024))).point(), at(real(full(r, 1024))).point(), at(real(full(r, 1024))).point())
		want(t, "the line through long points of the real line", got, e, reals())
		got, e = circ.Through(at(num{full(r, 1024), rat(1, 1)}).point(), far().point(), at(num{full(r, 1024), rat(1, 1)}).point())
		want(t, "the line through long points of another line", got, e, ringed(0, 0, 1, 2))
		got, e = circ.Through(at(fullNum(r, 1024)).point(), at(fullNum(r, 1024)).point(), at(fullNum(r, 1024)).point())
		wantNone(t, "the circle through any long points", got, e, api.ErrBig)
	}
}

func TestThroughRefuses(t *testing.T) { // P11.2
	long := at(fullNum(rand.New(rand.NewSource(1122)), 1024))
	for _, x := range wrongPoints() {
		for _, l := range [][3]spot{{on(0, 0), on(1, 0), on(2, 1)}, {far(), on(1, 0), on(0, 0)}, {on(1, 1), on(1, 1), on(1, 1)}, {far(), far(), far()}, {long, on(0, 0), long}} {
			for k := range l {
				p := [3]api.Point(pointsOf(l[:]...))
				p[k] = x
				got, e := circ.Through(p[0], p[1], p[2])
				wantNone(t, "the circle through a wrong point", got, e, api.ErrArg)
				p[(k+1)%3] = x
				got, e = circ.Through(p[0], p[1], p[2])
				wantNone(t, "the circle through two wrong points", got, e, api.ErrArg)
			}
		}
		got, e := circ.Through(x, x, x)
		wantNone(t, "the circle through three wrong points", got, e, api.ErrArg)
	}
	other := at(fullNum(rand.New(rand.NewSource(1123)), 1024))
	for _, l := range [][3]spot{{long, long, other}, {long, other, long}, {other, long, long}, {far(), far(), long}, {long, long, long}} {
		got, e := circ.Through(l[0].point(), l[1].point(), l[2].point())
		wantNone(t, "the circle through twins", got, e, api.ErrTwins)
	}
}

// places are points at which circles are asked: near 0, odd ones, long ones,
// infinity.
func places() []spot {
	r := rand.New(rand.NewSource(1130))
	l := near0()
	for range 8 {
		l = append(l, oddSpot(r, 6))
	}
	return append(l, at(fullNum(r, 1024)), at(real(full(r, 1024))), at(onUnit(r, 1000)), at(real(ofInt(root()))), at(real(ofInt(top()))), at(num{under(top()), opposite(ofInt(top()))}))
}

func TestSideAndValue(t *testing.T) { // P11.3
	seen := sides{}
	for _, k := range rings() {
		for _, p := range places() {
			c := k.circle()
			got, e := circ.Side(c, p.point())
			if got != k.side(p) || e != api.OK {
				t.Fatalf("the side of %s at %s: %d, %v, want %d", brief(c), briefPoint(p.point()), got, e, k.side(p))
			}
			all, e := circ.On(c, p.point())
			if all != (k.side(p) == 0) || e != api.OK {
				t.Fatalf("%s is on %s: %v, %v", briefPoint(p.point()), brief(c), all, e)
			}
			if p.inf {
				continue
			}
			value := k.value(p.z)
			seen.count(upTo(value))
			x, e := circ.Value(c, p.z.gauss())
			wantFrac(t, "the value of "+brief(c)+" at "+briefPoint(p.point()), x, e, value)
		}
	}
	seen.both(t)
}

func TestSideExamples(t *testing.T) { // P11.3
	line := ringed(0, 1, 0, -2)
	for _, x := range []struct {
		k    ring
		p    spot
		want int
	}{
		{unit(), on(0, 0), -1}, {unit(), far(), 1}, {unit(), on(1, 0), 0}, {unit(), on(0, -1), 0}, {unit(), on(1, 1), 1}, {unit(), at(num{rat(3, 5), rat(-4, 5)}), 0},
		{reals(), on(0, 1), -1}, {reals(), on(5, -1), 1}, {reals(), on(-7, 0), 0}, {reals(), far(), 0}, {line, on(2, 9), 1}, {line, on(0, 9), -1}, {line, on(1, 9), 0}, {line, far(), 0},
	} {
		if got, e := circ.Side(x.k.circle(), x.p.point()); got != x.want || e != api.OK {
			t.Errorf("the side of %s at %s: %d, %v, want %d", brief(x.k.circle()), briefPoint(x.p.point()), got, e, x.want)
		}
	}
	for _, x := range []struct {
		k    ring
		z    num
		want int64
	}{{unit(), in(2, 0), 3}, {unit(), in(0, 0), -1}, {unit(), in(0, 1), 0}, {reals(), in(3, 4), -8}, {line, in(3, 4), 4}, {ringed(1, 1, 2, 3), in(1, -1), 11}, {ringed(1, 1, 2, 3), in(1, 1), 3}} {
		got, e := circ.Value(x.k.circle(), x.z.gauss())
		wantFrac(t, "the value of "+brief(x.k.circle()), got, e, rat(x.want, 1))
	}
}

func TestValueAtTheBound(t *testing.T) { // P11.3
	for _, x := range []struct {
		k    ring
		z    num
		want api.Errno
	}{
		{unit(), real(ofInt(root())), api.OK}, {ringed(1, 0, 0, -2), real(ofInt(root())), api.OK}, {ringed(1, 1, 0, 0), real(ofInt(root())), api.ErrBig}, {unit(), num{ofInt(root()), rat(1, 1)}, api.ErrBig}, {ringed(1, 0, 0, -2), num{rat(1, 1), ofInt(root())}, api.OK},
		{reals(), num{ofInt(top()), ofInt(less(edge(), 1))}, api.OK}, {reals(), num{none(), ofInt(edge())}, api.ErrBig}, {reals(), num{none(), opposite(ofInt(edge()))}, api.ErrBig},
		{unit(), real(under(root())), api.ErrBig}, {unit(), real(under(less(root(), 1))), api.OK}, {unit(), real(ofInt(top())), api.ErrBig},
	} {
		got, e := circ.Value(x.k.circle(), x.z.gauss())
		wantFrac(t, "the value of "+brief(x.k.circle()), got, e, x.k.value(x.z))
		if e != x.want {
			t.Errorf("the value of %s at %s: %v, want %v", brief(x.k.circle()), briefNum(x.z.gauss()), e, x.want)
		}
		// Side and On tell however long the value is.
		if side, e := circ.Side(x.k.circle(), at(x.z).point()); side != x.k.side(at(x.z)) || e != api.OK {
			t.Errorf("the side of %s at %s: %d, %v", brief(x.k.circle()), briefNum(x.z.gauss()), side, e)
		}
	}
}

// Long points of the unit circle, and such points moved by hardly anything.
func TestOnLongPoints(t *testing.T) { // P11.3
	r := rand.New(rand.NewSource(1131))
	for range 5 {
		z := onUnit(r, 1000)
		near := num{z.re, plus(z.im, under(less(root(), 1)))}
		for _, k := range []ring{unit(), through(at(z), on(0, 0), far()), through(on(1, 0), on(2, 0), at(z))} {
			if !k.fits() || !near.fits() {
				t.Fatal("what is asked is too long")
			}
			if all, e := circ.On(k.circle(), at(z).point()); !all || e != api.OK {
				t.Fatalf("a long point on %s: %v, %v", brief(k.circle()), all, e)
			}
			if all, e := circ.On(k.circle(), at(near).point()); all || e != api.OK {
				t.Fatalf("a long point beside %s: %v, %v", brief(k.circle()), all, e)
			}
		}
	}
}

func TestOn(t *testing.T) { // P11.3
	u := unit().circle()
	l := pointsOf(on(1, 0), on(0, 1), on(1, 0), at(num{rat(-3, 5), rat(4, 5)}), on(-1, 0))
	for _, x := range []struct {
		c    api.Circle
		l    []api.Point
		want bool
	}{
		{u, nil, true}, {u, []api.Point{}, true}, {u, l, true}, {reals().circle(), nil, true}, {reals().circle(), pointsOf(far(), on(3, 0), far()), true}, {reals().circle(), pointsOf(far(), on(3, 1)), false}, {u, pointsOf(far()), false},
	} {
		if got, e := circ.On(x.c, x.l...); got != x.want || e != api.OK {
			t.Errorf("%s are on %s: %v, %v", briefs(x.l...), brief(x.c), got, e)
		}
	}
	for k := range l {
		for _, p := range pointsOf(on(2, 0), on(0, 0), far()) {
			other := slices.Clone(l)
			other[k] = p
			if got, e := circ.On(u, other...); got || e != api.OK {
				t.Errorf("%s are on the unit circle: %v, %v", briefs(other...), got, e)
			}
		}
	}
}

func many(count int, p spot) []api.Point {
	l := make([]api.Point, count)
	for k := range l {
		l[k] = p.point()
	}
	return l
}

func wantNotOn(t *testing.T, what string, wanted api.Errno, c api.Circle, l ...api.Point) {
	t.Helper()
	if got, e := circ.On(c, l...); got || e != wanted {
		t.Fatalf("%s: %v, %v, want false and %v", what, got, e, wanted)
	}
}

func TestOnRefuses(t *testing.T) { // P11.3
	u := unit().circle()
	full, more := many(api.MaxList, on(0, 1)), many(api.MaxList+1, on(0, 1))
	if got, e := circ.On(u, full...); !got || e != api.OK {
		t.Fatalf("as many points as may be: %v, %v", got, e)
	}
	full[api.MaxList-1] = on(0, 2).point()
	wantNotOn(t, "as many points as may be, the last one beside", api.OK, u, full...)
	wantNotOn(t, "one point more than may be", api.ErrLong, u, more...)
	wantNotOn(t, "one point more than may be, all beside", api.ErrLong, reals().circle(), more...)
	for _, p := range wrongPoints() {
		for _, k := range []int{0, 1000, api.MaxList} {
			more[k] = p
			wantNotOn(t, "one point more than may be, a wrong one among them", api.ErrArg, u, more...)
			more[k] = on(0, 1).point()
		}
		wantNotOn(t, "a wrong point", api.ErrArg, u, p)
		wantNotOn(t, "a wrong point behind one that is beside", api.ErrArg, u, on(5, 5).point(), p)
		wantNotOn(t, "a wrong point of a wrong circle", api.ErrArg, api.Circle{}, p)
	}
	for _, c := range wrongCircles() {
		wantNotOn(t, "no point of a wrong circle", api.ErrArg, c)
		wantNotOn(t, "a point of a wrong circle", api.ErrArg, c, on(0, 0).point())
	}
	wantNotOn(t, "one point more than may be of a wrong circle", api.ErrArg, ringed(2, 0, 0, -2).circle(), more...)
}

func TestValueAndSideRefuse(t *testing.T) { // P11.3
	for _, c := range wrongCircles() {
		for _, z := range []api.Gauss{in(0, 0).gauss(), in(1, 2).gauss(), real(ofInt(top())).gauss(), {}} {
			got, e := circ.Value(c, z)
			wantNoFrac(t, "the value of a wrong circle", got, e, api.ErrArg)
			if side, e := circ.Side(c, api.Point{Z: z}); side != 0 || e != api.ErrArg {
				t.Fatalf("the side of the wrong %s: %d, %v", brief(c), side, e)
			}
		}
		if side, e := circ.Side(c, far().point()); side != 0 || e != api.ErrArg {
			t.Fatalf("the side of the wrong %s at infinity: %d, %v", brief(c), side, e)
		}
	}
	for _, k := range []ring{unit(), reals(), rings()[len(rings())-2]} {
		for _, z := range wrongNums() {
			got, e := circ.Value(k.circle(), z)
			wantNoFrac(t, "the value at a wrong number", got, e, api.ErrArg)
		}
		for _, p := range wrongPoints() {
			if side, e := circ.Side(k.circle(), p); side != 0 || e != api.ErrArg {
				t.Fatalf("the side at a wrong point: %d, %v", side, e)
			}
		}
	}
}
