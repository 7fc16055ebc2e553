package arcs_test

import (
	"math"
	"math/rand"
	"slices"
	"testing"

	"tracery/api"
	"tracery/arcs"
)

func TestImageExamples(t *testing.T) { // P29.5
	n := minusNought()
	slide := mapped(1, 1i, 0, 1)
	for _, x := range []struct {
		m    api.FMob
		a    api.Arc
		want api.Arc
		e    api.Errno
	}{
		{upsideDown(), straight(1, 2), straight(1, complex(0.5, 0)), api.OK},
		{upsideDown(), straight(0, 1), api.Arc{}, api.ErrNone},
		{upsideDown(), straight(1, 0), api.Arc{}, api.ErrNone},
		{upsideDown(), straight(-1, 1), api.Arc{}, api.ErrNone},
		{upsideDown(), straight(complex(n, n), 1), api.Arc{}, api.ErrNone},
		{slide, straight(0, 2), straight(1i, 2+1i), api.OK},
		{slide, straight(1, 1), api.Arc{}, api.ErrNone},
		{slide, bow(1, 1, 0, 1, true), api.Arc{}, api.ErrNone},
		{slide, round(0, 1), round(complex(n, 1), 1), api.OK},
		{slide, round(3-1i, 5), round(3, 5), api.OK},
		// All to one point: three that are the same; a circle that is none.
		{mapped(0, 1, 0, 1), straight(0, 1), api.Arc{}, api.ErrNone},
		{mapped(0, 1, 0, 1), round(0, 1), api.Arc{}, api.ErrNone},
		{api.FMob{}, straight(0, 1), api.Arc{}, api.ErrNone},
		{api.FMob{}, round(0, 1), api.Arc{}, api.ErrNone},
		// A circle through 0 comes to be a line.
		{upsideDown(), round(1, 1), api.Arc{}, api.ErrNone},
		{upsideDown(), round(0, 2), round(complex(0, n), 0.5), api.OK},
		// The middle's error goes ahead of an end that goes to infinity.
		{mapped(0, 1, 1, -0x1p1023), straight(0x1p1023, 0x1p1023), api.Arc{}, api.ErrFloat},
		{mapped(0, 1, 1, 0), bow(0, 0x1p-1074, 0, 1, true), api.Arc{}, api.ErrFloat},
		{mapped(0, 1, 1, 0), bow(0, 0, 0, 1, true), api.Arc{}, api.ErrNone},
		// Infinity goes ahead of what is not finite.
		{mapped(0x1p1000, 0, 1, 0), straight(0, 0x1p1000), api.Arc{}, api.ErrNone},
		{mapped(0x1p1000, 0, 0, 1), straight(1, 0x1p1000), api.Arc{}, api.ErrFloat},
		// The circle's C is not finite; nor is that of the image.
		{still(), round(0, 0x1p512), api.Arc{}, api.ErrFloat},
		{mapped(0x1p600, 0, 0, 1), round(0, 1), api.Arc{}, api.ErrFloat},
	} {
		a, e := arcs.Image(x.m, x.a)
		wantArc(t, told("Image", x.m, x.a), a, e, x.want, x.e)
	}
}

// A map that turns goes by the conjugate; a bow stays one, and turns its side.
func TestImageOfBows(t *testing.T) { // P29.5
	for _, x := range []struct {
		m        api.FMob
		a        api.Arc
		from, to complex128
		centre   complex128
		radius   float64
		left     bool
	}{
		{still(), half(), 1, -1, 0, 1, true},
		{turning(still()), half(), 1, -1, 0, 1, false},
		{mapped(2, 1i, 0, 1), half(), 2 + 1i, -2 + 1i, 1i, 2, true},
		{upsideDown(), half(), 1, -1, 0, 1, false},
		{turning(upsideDown()), half(), 1, -1, 0, 1, true},
		{mapped(1i, 0, 0, 1), half(), 1i, -1i, 0, 1, true},
		// A straight one comes to be a bow.
		{upsideDown(), straight(1-1i, 1+1i), 0.5 + 0.5i, 0.5 - 0.5i, 0.5, 0.5, false},
	} {
		a, e := arcs.Image(x.m, x.a)
		if e != api.OK || a.Kind != api.ArcBow || a.From != x.from || a.To != x.to || a.Centre != x.centre || a.Radius != x.radius || a.Left != x.left {
			t.Errorf("Image(%v, %v): %v, %v", x.m, x.a, a, e)
		}
	}
}

func TestImageRefusesMaps(t *testing.T) { // P29.5
	for _, m := range wrongMaps() {
		for _, a := range []api.Arc{straight(0, 1), straight(1, 1), round(0, 1), round(0, 0x1p600), half(), bow(1, 1, 0, 1, true)} {
			b, e := arcs.Image(m, a)
			wantArc(t, told("Image", m, a), b, e, api.Arc{}, api.ErrFloat)
		}
		for _, a := range wrongArcs()[:40] {
			b, e := arcs.Image(m, a)
			wantArc(t, told("Image", m, a), b, e, api.Arc{}, api.ErrArg)
		}
	}
}

func TestImageMany(t *testing.T) { // P29.5
	counts := map[api.ArcKind]tally{api.ArcStraight: {}, api.ArcRound: {}, api.ArcBow: {}}
	ask := func(m api.FMob, a api.Arc) {
		want, wantE := imageOf(m, a)
		b, e := arcs.Image(m, a)
		wantArc(t, told("Image", m, a), b, e, want, wantE)
		counts[a.Kind][e]++
	}
	r := rand.New(rand.NewSource(301))
	for i, part := range finiteKinds() {
		for range 8000 {
			a := part.arc(r)
			ask(part.mapping(r), a)
			ask(chooser(few).mapping(r), a)
			if i == 0 {
				// The map sends one end to infinity.
				m := mapped(part.number(r), part.number(r), 1, -a.From)
				ask(m, a)
			}
		}
	}
	for _, m := range []api.FMob{still(), turning(still()), upsideDown(), mapped(1, 2, 3i, 4), turning(mapped(1, -1, 1, 1i))} {
		for _, a := range goodArcs() {
			ask(m, a)
		}
	}
	for _, l := range counts {
		l.want(t, 100, api.OK, api.ErrFloat, api.ErrNone)
	}
}

func TestImagesExamples(t *testing.T) { // P29.5
	j := upsideDown()
	s, z, o := straight(1, 2), straight(0, 1), straight(0x1p1023, 0x1p1023)
	want := straight(1, complex(0.5, 0))
	for _, x := range []struct {
		l    []api.Arc
		want []api.Arc
	}{
		{nil, nil},
		{[]api.Arc{}, nil},
		{[]api.Arc{s}, []api.Arc{want}},
		{[]api.Arc{z}, nil},
		{[]api.Arc{z, s, z}, []api.Arc{want}},
		{[]api.Arc{s, z, o, s}, []api.Arc{want, want}}, // z is refused by ErrNone, o by ErrFloat
	} {
		l, e := arcs.Images(j, x.l...)
		wantArcs(t, told("Images", x.l), l, e, x.want, api.OK)
	}
}

// listsAbout are lists with a wrong arc at many places, and without, of many lengths.
func listsAbout() [][]api.Arc {
	var l [][]api.Arc
	good, wrong := straight(1, 2), api.Arc{Kind: api.ArcStraight, Left: true}
	for _, n := range []int{1, 2, api.MaxList - 1, api.MaxList, api.MaxList + 1, 2 * api.MaxList} {
		l = append(l, many(good, n))
		for _, at := range []int{0, n / 2, n - 1} {
			list := many(good, n)
			list[at] = wrong
			l = append(l, list)
		}
	}
	return append(l, nil, []api.Arc{})
}

// ErrArg, ahead of ErrLong, ahead of ErrFloat.
func TestImagesOrderOfErrors(t *testing.T) { // P29.5
	counts := tally{}
	for _, list := range listsAbout() {
		for _, m := range []api.FMob{still(), upsideDown(), wrongMaps()[0], wrongMaps()[17]} {
			want, wantE := imagesOf(m, list)
			l, e := arcs.Images(m, list...)
			if e != wantE || !slices.EqualFunc(l, want, likeArcs) {
				t.Fatalf("Images(%v, %d arcs): %d, %v, not %d, %v", m, len(list), len(l), e, len(want), wantE)
			}
			counts[e]++
		}
	}
	counts.want(t, 6, api.OK, api.ErrArg, api.ErrLong, api.ErrFloat)
	for _, m := range wrongMaps() {
		l, e := arcs.Images(m)
		wantArcs(t, told("Images", m), l, e, nil, api.ErrFloat)
	}
}

func TestImagesMany(t *testing.T) { // P29.5
	r := rand.New(rand.NewSource(302))
	for _, part := range finiteKinds() {
		for range 300 {
			m := part.mapping(r)
			list := make([]api.Arc, r.Intn(20))
			for k := range list {
				list[k] = part.arc(r)
			}
			want, wantE := imagesOf(m, list)
			l, e := arcs.Images(m, list...)
			wantArcs(t, told("Images", m, list), l, e, want, wantE)
		}
	}
	l, e := arcs.Images(mapped(math.MaxFloat64, 0, 0, 1), straight(1, 2), round(0, 1), half())
	wantArcs(t, "Images, all too great", l, e, nil, api.OK)
}
