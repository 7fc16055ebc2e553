package mob_test

import (
	"iter"
	"math"
	"math/big"
	"math/rand"
	"slices"
	"testing"

	"tracery/api"
	"tracery/mob"
)

func TestAt(t *testing.T) { // P8.2
	check := func(m chart, p spot) {
		t.Helper()
		got, e := mob.At(m.mob(), p.point())
		wantPoint(t, "where "+brief(m.mob())+" sends "+briefPoint(p.point()), got, e, m.at(p))
	}
	for _, m := range maps() {
		for _, p := range spots() {
			check(m, p)
		}
		check(m, m.inverse().at(far())) // the pole
	}
	quads(func(m chart) {
		if m.det().zero() {
			return
		}
		for _, z := range shorts() {
			check(m.formed(), at(z))
		}
		check(m.formed(), far())
	})
	r := rand.New(rand.NewSource(820))
	for range 300 {
		check(oddChart(r, 20), oddSpot(r, 20))
	}
}

func TestAtExamples(t *testing.T) { // P8.2
	j, s := charted(0, 1, 1, 0), charted(1, 1, 0, 1)
	half := at(num{none(), big.NewRat(-1, 2)})
	for _, x := range []struct {
		m        chart
		from, to spot
	}{
		{j, at(in(0, 0)), far()}, {j, far(), at(in(0, 0))}, {j, at(in(0, 2)), half}, {s, far(), far()}, {s, at(in(2, 1)), at(in(3, 1))},
		{j.turned(), at(in(0, -2)), half}, {s.turned(), at(in(2, 1)), at(in(3, -1))}, {s.turned(), far(), far()}, {j.turned(), at(in(0, 0)), far()}, {j.turned(), far(), at(in(0, 0))},
		// A turned map's pole is the conjugate of -D.
		{chart{in(0, 0), in(1, 0), in(1, 0), in(2, 1), true}, at(in(-2, 1)), far()}, {chart{in(0, 0), in(1, 0), in(1, 0), in(2, 1), true}, at(in(-1, 1)), at(in(1, 0))},
	} {
		got, e := mob.At(x.m.mob(), x.from.point())
		wantPoint(t, "where "+brief(x.m.mob())+" sends "+briefPoint(x.from.point()), got, e, x.to)
	}
}

func TestAtTheBound(t *testing.T) { // P8.2
	most, next := at(real(ofInt(top()))), at(real(ofInt(less(top(), 1))))
	edge := at(real(ofInt(twos(8*api.MaxWhole - 1))))
	s, double := charted(1, 1, 0, 1), charted(2, 0, 0, 1)
	for _, x := range []struct {
		m    chart
		p    spot
		want api.Errno
	}{
		{s, next, api.OK}, {s, most, api.ErrBig}, {s.inverse(), most, api.OK}, {s.turned(), next, api.OK}, {s.turned(), most, api.ErrBig},
		{double, edge, api.ErrBig}, {double.inverse(), edge, api.OK}, {charted(0, 1, 1, 0), edge, api.OK}, {charted(0, 1, 1, 1), most, api.ErrBig}, {charted(0, 1, 1, 1), next, api.OK},
		{slide(in(0, 1)), at(num{none(), most.z.re}), api.ErrBig}, {slide(in(0, -1)), at(num{none(), most.z.re}), api.OK},
		{slide(in(0, -1)).turned(), at(num{none(), most.z.re}), api.ErrBig}, {slide(in(0, 1)).turned(), at(num{none(), most.z.re}), api.OK},
	} {
		got, e := mob.At(x.m.mob(), x.p.point())
		if e != x.want {
			t.Errorf("where %s sends %s: %v, want %v", brief(x.m.mob()), briefPoint(x.p.point()), e, x.want)
		}
		wantPoint(t, "where a point at the bound goes", got, e, x.m.at(x.p))
	}
}

// What is long on the way alone is not refused.
func TestAtLongOnTheWay(t *testing.T) { // P8.2
	r := rand.New(rand.NewSource(821))
	z := fullNum(r, api.MaxWhole)
	m := chart{in(3, 0), z, in(1, 0), z, false}
	for _, x := range []struct {
		m    chart
		p    spot
		want spot
	}{
		{m, at(z), at(in(2, 0))}, {m, at(z.neg()), far()}, {m, at(in(0, 0)), at(in(1, 0))}, {m, far(), at(in(3, 0))},
		{m.turned(), at(z.conj()), at(in(2, 0))}, {m.turned(), at(z.conj().neg()), far()}, {m.inverse(), at(in(2, 0)), at(z)}, {m.turned().inverse(), at(in(2, 0)), at(z.conj())},
		{slide(z.neg()), at(z), at(in(0, 0))},
	} {
		got, e := mob.At(x.m.mob(), x.p.point())
		wantPoint(t, "where a long map sends a long point", got, e, x.want)
	}
	got, e := mob.At(m.mob(), at(fullNum(r, api.MaxWhole)).point())
	wantNoPoint(t, "where a long map sends another long point", got, e, api.ErrBig)
}

func TestAtRefusesWrongOnes(t *testing.T) { // P8.2
	for _, m := range wrongMaps() {
		for _, p := range []spot{far(), at(in(0, 0)), at(in(1, 1))} {
			got, e := mob.At(m, p.point())
			wantNoPoint(t, "where a wrong map sends a point", got, e, api.ErrArg)
		}
	}
	for _, p := range wrongPoints() {
		for _, m := range []api.Mob{mob.One(), charted(0, 1, 1, 0).mob(), {}} {
			got, e := mob.At(m, p)
			wantNoPoint(t, "where a map sends a wrong point", got, e, api.ErrArg)
		}
	}
}

func pointsOf(l []spot) []api.Point {
	var out []api.Point
	for _, p := range l {
		out = append(out, p.point())
	}
	return out
}

func TestImages(t *testing.T) { // P8.2
	for _, m := range maps() {
		var l, images []spot
		for _, p := range spots() {
			if m.at(p).fits() {
				l, images = append(l, p), append(images, m.at(p))
			}
		}
		got, e := mob.Images(m.mob(), pointsOf(l)...)
		if e != api.OK || !slices.Equal(got, pointsOf(images)) {
			t.Fatalf("the images by %s: %d, %v", brief(m.mob()), len(got), e)
		}
	}
	for _, l := range [][]api.Point{nil, {}} {
		if got, e := mob.Images(mob.One(), l...); len(got) != 0 || e != api.OK {
			t.Errorf("the images of none: %d, %v", len(got), e)
		}
	}
}

func wantNoImages(t *testing.T, what string, wanted api.Errno, m api.Mob, l ...api.Point) {
	t.Helper()
	if got, e := mob.Images(m, l...); len(got) != 0 || e != wanted {
		t.Fatalf("the images of %s: %d, %v, want none and %v", what, len(got), e, wanted)
	}
}

func TestImagesRefuse(t *testing.T) { // P8.2
	s, one, most := charted(1, 1, 0, 1).mob(), at(in(1, 0)).point(), at(real(ofInt(top()))).point()
	wantNoImages(t, "a point that goes too far", api.ErrBig, s, most)
	wantNoImages(t, "a point among others that goes too far", api.ErrBig, s, one, most, one)
	for _, p := range wrongPoints() {
		wantNoImages(t, "a wrong point", api.ErrArg, s, p)
		wantNoImages(t, "a wrong point behind another", api.ErrArg, s, one, p)
		wantNoImages(t, "a wrong point behind one that goes too far", api.ErrArg, s, most, one, p)
		wantNoImages(t, "a wrong point ahead of one that goes too far", api.ErrArg, s, p, most)
	}
	for _, m := range wrongMaps() {
		wantNoImages(t, "a point by a wrong map", api.ErrArg, m, one)
		wantNoImages(t, "no point by a wrong map", api.ErrArg, m)
	}
}

func TestImagesAtTheirBound(t *testing.T) { // P8.2
	var l []api.Point
	for k := range int64(api.MaxList) {
		l = append(l, at(in(k, -k)).point())
	}
	m := charted(2, 1, 1, 0)
	got, e := mob.Images(m.mob(), l...)
	if len(got) != api.MaxList || e != api.OK {
		t.Fatalf("the images of as many points as may be: %d, %v", len(got), e)
	}
	for k, p := range got {
		wantPoint(t, "one of many images", p, api.OK, m.at(spotOf(l[k])))
	}
	l = append(l, far().point())
	wantNoImages(t, "one point more than may be", api.ErrLong, m.mob(), l...)
	l[7] = api.Point{}
	wantNoImages(t, "one point more than may be, a wrong one among them", api.ErrLong, m.mob(), l...)
	wantNoImages(t, "one point more than may be by a wrong map", api.ErrLong, api.Mob{}, l...)
	wantNoImages(t, "as many points as may be, a wrong one among them", api.ErrArg, m.mob(), l[:api.MaxList]...)
}

func TestImagesAreNewMemory(t *testing.T) { // P8.2
	l := pointsOf([]spot{at(in(1, 0)), far(), at(in(2, 3))})
	room := slices.Grow(slices.Clone(l), 9)
	given := room[:len(l)]
	got, _ := mob.Images(mob.One(), given...)
	again, _ := mob.Images(mob.One(), given...)
	for k := range got[:cap(got)] {
		got[:cap(got)][k] = api.Point{}
	}
	if !slices.Equal(given, l) || slices.ContainsFunc(room[len(l):cap(room)], func(p api.Point) bool { return p != (api.Point{}) }) {
		t.Error("what was handed in has changed")
	}
	if !slices.Equal(again, l) {
		t.Error("two answers share memory")
	}
}

func TestPole(t *testing.T) { // P8.4
	check := func(m chart) {
		t.Helper()
		got, e := mob.Pole(m.mob())
		wantPoint(t, "the pole of "+brief(m.mob()), got, e, m.inverse().at(far()))
		if image, e := mob.At(m.mob(), got); image != far().point() || e != api.OK {
			t.Fatalf("%s sends its pole to %s, %v", brief(m.mob()), briefPoint(image), e)
		}
	}
	check(charted(0, 1, 1, 0))
	for _, m := range maps() {
		check(m)
	}
	quads(func(m chart) {
		if !m.det().zero() {
			check(m.formed())
		}
	})
	r := rand.New(rand.NewSource(822))
	long := chart{fullNum(r, 1024), fullNum(r, 1024), in(1, 0), fullNum(r, 1024), false}
	for _, x := range []struct {
		m    chart
		want spot
	}{
		{charted(0, 1, 1, 0), at(in(0, 0))}, {charted(1, 1, 0, 1), far()}, {charted(1, 1, 0, 1).turned(), far()}, {still(), far()},
		{long, at(long.d.neg())}, {long.turned(), at(long.d.conj().neg())}, {stretch(long.a), far()},
	} {
		got, e := mob.Pole(x.m.mob())
		wantPoint(t, "the pole of "+brief(x.m.mob()), got, e, x.want)
	}
	for _, m := range wrongMaps() {
		got, e := mob.Pole(m)
		wantNoPoint(t, "the pole of a wrong map", got, e, api.ErrArg)
	}
}

// wantOrbit goes by At, done by math/big, up to where it gets too big.
func wantOrbit(t *testing.T, m chart, p spot, n int) (told int) {
	t.Helper()
	orbit, e := mob.Orbit(m.mob(), p.point(), n)
	if e != api.OK || orbit == nil {
		t.Fatalf("an orbit of %s: %v", brief(m.mob()), e)
	}
	for k, q := range orbit {
		if k != told || k > n || q != p.point() || !p.fits() {
			t.Fatalf("%d of an orbit of %s is %d, %s, want %s", told, brief(m.mob()), k, briefPoint(q), briefPoint(p.point()))
		}
		told, p = told+1, m.at(p)
	}
	if told != n+1 && p.fits() {
		t.Fatalf("an orbit of %s ends behind %d", brief(m.mob()), told)
	}
	return told
}

func TestOrbit(t *testing.T) { // P8.6
	for _, m := range maps() {
		for k, p := range spots() {
			wantOrbit(t, m, p, k%9)
		}
	}
	s := charted(1, 1, 0, 1)
	for _, n := range []int{0, 1, 3, 100, api.MaxList} {
		if told := wantOrbit(t, s, at(in(0, 0)), n); told != n+1 {
			t.Errorf("of %d: %d", n, told)
		}
	}
	wantOrbit(t, charted(0, 1, 1, 0), at(in(0, 0)), 7) // 0, infinity, 0 ..
	wantOrbit(t, stretch(in(0, 1)).turned(), at(in(1, 0)), 7)
	r := rand.New(rand.NewSource(823))
	for range 40 {
		wantOrbit(t, oddChart(r, 3), oddSpot(r, 3), 30)
	}
}

func TestOrbitEndsAheadOfWhatIsTooBig(t *testing.T) { // P8.6
	four, one := stretch(in(4, 0)), at(in(1, 0))
	most, s := at(real(ofInt(less(top(), 3)))), charted(1, 1, 0, 1)
	for _, x := range []struct {
		m       chart
		p       spot
		n, told int
	}{
		{four, one, api.MaxList, api.MaxList}, {four, one, api.MaxList - 1, api.MaxList}, {stretch(in(2, 0)), one, api.MaxList, api.MaxList + 1},
		{stretch(in(0, 4)), one, api.MaxList, api.MaxList}, {four.inverse(), one, api.MaxList, api.MaxList},
		{s, most, 9, 4}, {s, most, 3, 4}, {s, most, 2, 3}, {s, most, 0, 1}, {s.inverse(), most, 9, 10},
		{charted(1, 2, 1, 1), at(in(0, 0)), api.MaxList, 0},
	} {
		if told := wantOrbit(t, x.m, x.p, x.n); told != x.told && x.told > 0 {
			t.Errorf("an orbit of %s, up to %d, tells %d, want %d", brief(x.m.mob()), x.n, told, x.told)
		}
	}
}

func firsts(orbit iter.Seq2[int, api.Point], count int) []api.Point {
	var l []api.Point
	for _, p := range orbit {
		if l = append(l, p); len(l) == count {
			break
		}
	}
	return l
}

func TestOrbitIsLeftAndBegunAnew(t *testing.T) { // P8.6
	orbit, _ := mob.Orbit(charted(1, 1, 0, 1).mob(), at(in(0, 0)).point(), 5)
	wanted := pointsOf([]spot{at(in(0, 0)), at(in(1, 0)), at(in(2, 0)), at(in(3, 0)), at(in(4, 0)), at(in(5, 0))})
	for _, count := range []int{1, 3, 6, 9, 2} {
		if got := firsts(orbit, count); !slices.Equal(got, wanted[:min(count, 6)]) {
			t.Errorf("%d of an orbit: %d", count, len(got))
		}
	}
	for k := range orbit { // one within the other
		if k == 2 {
			if got := firsts(orbit, 6); !slices.Equal(got, wanted) {
				t.Errorf("an orbit within itself: %d", len(got))
			}
		}
	}
}

func TestOrbitRefuses(t *testing.T) { // P8.6
	one, s := at(in(1, 0)).point(), charted(1, 1, 0, 1).mob()
	refused := func(m api.Mob, p api.Point, n int, wanted api.Errno) {
		t.Helper()
		if orbit, e := mob.Orbit(m, p, n); orbit != nil || e != wanted {
			t.Fatalf("an orbit of %s, up to %d: %v, want %v", brief(m), n, e, wanted)
		}
	}
	for _, n := range []int{-1, math.MinInt} {
		refused(s, one, n, api.ErrArg)
	}
	for _, n := range []int{api.MaxList + 1, math.MaxInt} {
		refused(s, one, n, api.ErrLong)
		refused(s, api.Point{}, n, api.ErrArg)
		refused(api.Mob{}, one, n, api.ErrArg)
	}
	for _, m := range wrongMaps() {
		refused(m, one, 3, api.ErrArg)
	}
	for _, p := range wrongPoints() {
		refused(s, p, 0, api.ErrArg)
	}
}
