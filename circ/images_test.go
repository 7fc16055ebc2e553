package circ_test

import (
	"math/rand"
	"slices"
	"testing"

	"tracery/api"
	"tracery/circ"
)

func wantImage(t *testing.T, m chart, k ring) {
	t.Helper()
	got, e := circ.Image(m.mob(), k.circle())
	want(t, "the image of "+brief(k.circle())+" by "+briefMap(m.mob()), got, e, m.image(k))
}

func TestImage(t *testing.T) { // P11.4
	for _, m := range charts() {
		for _, k := range rings() {
			wantImage(t, m, k)
		}
	}
	r := rand.New(rand.NewSource(1140))
	for range 300 {
		wantImage(t, oddChart(r, 7), oddRing(r, 7))
	}
}

func TestImageExamples(t *testing.T) { // P11.4
	half := ring{rat(1, 1), num{rat(-1, 2), none()}, none()}
	turning := still().turned()
	for _, x := range []struct {
		m    chart
		k    ring
		want ring
	}{
		{inverting(), unit(), unit()}, {inverting(), half, ringed(0, 1, 0, -2)}, {inverting(), ringed(0, 1, 0, -2), half}, {inverting(), reals(), reals()}, {inverting().turned(), unit(), unit()},
		{charted(1, 1, 0, 1), unit(), ringed(1, -1, 0, 0)}, {stretch(in(0, 1)), reals(), ringed(0, 1, 0, 0)}, {stretch(in(2, 0)), unit(), ringed(1, 0, 0, -4)}, {slide(in(0, 1)), reals(), ringed(0, 0, 1, 2)},
		{turning, slide(in(0, 1)).image(reals()), ringed(0, 0, 1, -2)}, {turning, ringed(1, -1, 1, 0), ringed(1, -1, -1, 0)}, {slide(in(0, 1)).turned(), ringed(1, 0, 2, 0), ringed(1, 0, -1, -3)}, {slide(in(0, 1)), ringed(1, 0, 2, 0), ringed(1, 0, 3, 5)},
	} {
		got, e := circ.Image(x.m.mob(), x.k.circle())
		want(t, "the image of "+brief(x.k.circle())+" by "+briefMap(x.m.mob()), got, e, x.want)
	}
}

func TestImageAtTheBound(t *testing.T) { // P11.4
	r := rand.New(rand.NewSource(1141))
	rounds, lines := sides{}, sides{}
	for n := range 60 {
		long := func(count int) chart {
			return chart{fullNum(r, count), fullNum(r, count), in(1, 0), fullNum(r, count), n%2 == 0}
		}
		m, k := long(63+n/6), fullRing(r, 63+n/6)
		rounds.count(m.image(k).fits())
		wantImage(t, m, k)
		m, k = long(99+n/6), fullLine(r, 99+n/6)
		lines.count(m.image(k).fits())
		wantImage(t, m, k)
	}
	rounds.both(t)
	lines.both(t)
	bound, next := ofInt(edge()), ofInt(less(edge(), 1))
	line := ringed(0, 1, 0, 0)
	for _, x := range []struct {
		m    chart
		k    ring
		want api.Errno
	}{
		{slide(real(bound)), line, api.ErrBig}, {slide(real(next)), line, api.OK}, {slide(num{none(), bound}), line, api.OK}, {slide(real(bound)).turned(), line, api.ErrBig},
		{slide(real(ofInt(root()))), unit(), api.OK}, {slide(real(ofInt(root()))), ringed(1, 0, 1, -1), api.OK}, {slide(num{ofInt(root()), rat(1, 1)}), unit(), api.ErrBig}, {slide(num{none(), ofInt(root())}).turned(), unit(), api.OK},
		{stretch(real(ofInt(root()))), unit(), api.ErrBig}, {stretch(real(ofInt(less(root(), 1)))), unit(), api.OK}, {inverting(), ring{rat(1, 1), in(0, 0), opposite(ofInt(top()))}, api.OK},
	} {
		wantImage(t, x.m, x.k)
		if _, e := circ.Image(x.m.mob(), x.k.circle()); e != x.want {
			t.Errorf("the image of %s by %s: %v, want %v", brief(x.k.circle()), briefMap(x.m.mob()), e, x.want)
		}
	}
}

// What is long on the way alone is not refused.
func TestImageLongOnTheWay(t *testing.T) { // P11.4
	r := rand.New(rand.NewSource(1142))
	longest, shorter := fullNum(r, 1024), fullNum(r, 250)
	flat := chart{a: real(full(r, 1024)), b: real(full(r, 1024)), c: in(1, 0), d: real(full(r, 1024))}
	z := onUnit(r, 1000)
	for _, x := range []struct {
		m       chart
		k, want ring
	}{
		{flat, reals(), reals()}, {flat.turned(), reals(), reals()}, {stretch(real(full(r, 1024))), reals(), reals()}, {stretch(z), unit(), unit()}, {stretch(z).turned(), unit(), unit()},
		{still(), ring{rat(1, 1), longest, none()}, ring{rat(1, 1), longest, none()}}, {still().turned(), ring{rat(1, 1), longest, none()}, ring{rat(1, 1), longest.conj(), none()}},
		{slide(shorter), about(shorter.neg(), rat(3, 1)), ringed(1, 0, 0, -3)}, {slide(real(full(r, 1024))), reals(), reals()},
	} {
		got, e := circ.Image(x.m.mob(), x.k.circle())
		want(t, "a long image", got, e, x.want)
	}
	got, e := circ.Image(flat.mob(), unit().circle())
	wantNone(t, "the image of the unit circle by a long map", got, e, api.ErrBig)
}

func TestImageRefuses(t *testing.T) { // P11.4
	tooBig := slide(real(ofInt(top()))).mob()
	for _, c := range wrongCircles() {
		for _, m := range []api.Mob{still().mob(), inverting().turned().mob(), tooBig, {}} {
			got, e := circ.Image(m, c)
			wantNone(t, "the image of a wrong circle", got, e, api.ErrArg)
		}
	}
	for _, m := range wrongMaps() {
		for _, c := range []api.Circle{unit().circle(), reals().circle(), {}} {
			got, e := circ.Image(m, c)
			wantNone(t, "the image by a wrong map", got, e, api.ErrArg)
		}
	}
}

func circlesOf(l ...ring) []api.Circle {
	var out []api.Circle
	for _, k := range l {
		out = append(out, k.circle())
	}
	return out
}

func TestImages(t *testing.T) { // P11.4
	for k, m := range charts() {
		if k%3 > 0 {
			continue
		}
		var l, images []ring
		for _, k := range rings() {
			if m.image(k).fits() {
				l, images = append(l, k), append(images, m.image(k))
			}
		}
		got, e := circ.Images(m.mob(), circlesOf(l...)...)
		if e != api.OK || !slices.Equal(got, circlesOf(images...)) {
			t.Fatalf("the images by %s: %d, %v", briefMap(m.mob()), len(got), e)
		}
	}
	for _, l := range [][]api.Circle{nil, {}} {
		if got, e := circ.Images(inverting().mob(), l...); len(got) != 0 || e != api.OK {
			t.Errorf("the images of none: %d, %v", len(got), e)
		}
	}
}

func wantNoImages(t *testing.T, what string, wanted api.Errno, m api.Mob, l ...api.Circle) {
	t.Helper()
	if got, e := circ.Images(m, l...); len(got) != 0 || e != wanted {
		t.Fatalf("the images of %s: %d, %v, want none and %v", what, len(got), e, wanted)
	}
}

func TestImagesRefuse(t *testing.T) { // P11.4
	m, u := charted(1, 1, 0, 1).mob(), unit().circle()
	far := ring{none(), in(1, 0), opposite(ofInt(top()))}.circle() // by m too far
	wantNoImages(t, "a line that goes too far", api.ErrBig, m, far)
	wantNoImages(t, "a line among others that goes too far", api.ErrBig, m, u, far, u)
	wantNoImages(t, "a line behind others that goes too far", api.ErrBig, m, u, u, far)
	for _, c := range wrongCircles() {
		wantNoImages(t, "a wrong circle", api.ErrArg, m, c)
		wantNoImages(t, "a wrong circle behind another", api.ErrArg, m, u, c)
		wantNoImages(t, "a wrong circle behind one that goes too far", api.ErrArg, m, far, u, c)
		wantNoImages(t, "a wrong circle ahead of one that goes too far", api.ErrArg, m, c, far)
	}
	for _, m := range wrongMaps() {
		wantNoImages(t, "a circle by a wrong map", api.ErrArg, m, u)
		wantNoImages(t, "no circle by a wrong map", api.ErrArg, m)
	}
}

func TestImagesAtTheirBound(t *testing.T) { // P11.4
	var l []api.Circle
	for k := range int64(api.MaxList) {
		l = append(l, about(in(k, -k), rat(k+1, 2)).circle())
	}
	m := charted(2, 1, 1, 0).turned()
	got, e := circ.Images(m.mob(), l...)
	if len(got) != api.MaxList || e != api.OK {
		t.Fatalf("the images of as many circles as may be: %d, %v", len(got), e)
	}
	for k, c := range got {
		want(t, "one of many images", c, api.OK, m.image(ringOf(l[k])))
	}
	l = append(l, unit().circle())
	wantNoImages(t, "one circle more than may be", api.ErrLong, m.mob(), l...)
	for _, k := range []int{0, 7, api.MaxList} {
		kept := l[k]
		l[k] = api.Circle{}
		wantNoImages(t, "one circle more than may be, a wrong one among them", api.ErrLong, m.mob(), l...)
		l[k] = kept
	}
	wantNoImages(t, "one circle more than may be by a wrong map", api.ErrLong, api.Mob{}, l...)
	l[api.MaxList-1] = api.Circle{}
	wantNoImages(t, "as many circles as may be, a wrong one among them", api.ErrArg, m.mob(), l[:api.MaxList]...)
}

func TestImagesAreNewMemory(t *testing.T) { // P11.4
	l := circlesOf(unit(), reals(), ringed(1, 2, 3, 4))
	room := slices.Grow(slices.Clone(l), 9)
	given := room[:len(l)]
	got, _ := circ.Images(still().mob(), given...)
	again, _ := circ.Images(still().mob(), given...)
	for k := range got[:cap(got)] {
		got[:cap(got)][k] = api.Circle{}
	}
	if !slices.Equal(given, l) || slices.ContainsFunc(room[len(l):cap(room)], func(c api.Circle) bool { return c != (api.Circle{}) }) {
		t.Error("what was handed in has changed")
	}
	if !slices.Equal(again, l) {
		t.Error("two answers share memory")
	}
}

// Lists of points stay as they were, and so does the room behind them.
func TestListsStay(t *testing.T) { // P11.3, P11.6
	l := pointsOf(on(1, 0), on(1, 0), on(0, 1), on(-1, 0), on(2, 0))
	room := slices.Grow(slices.Clone(l), 9)
	given := room[:len(l)]
	circ.On(unit().circle(), given...)
	circ.Together(given...)
	circ.Together(given[:4]...)
	if !slices.Equal(given, l) || slices.ContainsFunc(room[len(l):cap(room)], func(p api.Point) bool { return p != (api.Point{}) }) {
		t.Error("what was handed in has changed")
	}
}
