package tiles_test

import (
	"math/rand"
	"slices"
	"testing"

	"tracery/api"
	"tracery/circ"
	"tracery/tiles"
)

// wantImage wants the sides that say of images what l says of points.
func wantImage(t *testing.T, m chart, l ...verge) string {
	t.Helper()
	got, e := tiles.Image(m.mob(), sidesOf(l...)...)
	var wanted []verge
	for _, s := range l {
		wanted = append(wanted, m.image(s))
	}
	fits := wantSides(t, "Image", got, e, wanted...)
	for k, s := range got {
		c, e := circ.Image(m.mob(), l[k].circle())
		want(t, "the image's circle", s.Circle, e, c)
	}
	return fits
}

// P18.2: examples, which say what each sign becomes.
func TestImageExamples(t *testing.T) {
	ups, inner := beside(rat(0, 1)), about(parts(1, 2, 0, 1), rat(1, 4))
	for _, x := range []struct {
		m        chart
		from, to ring
		same     bool
	}{
		{m: still(), from: unit(), to: unit(), same: true},
		{m: swap(), from: unit(), to: unit()},
		{m: charted(0, 1, 1, 0).turned(), from: unit(), to: unit()},
		{m: bar(), from: level(rat(1, 1)), to: level(rat(-1, 1))},
		{m: bar(), from: beside(rat(1, 1)), to: beside(rat(1, 1)), same: true},
		{m: stretch(in(-1, 0)), from: ups, to: ups},
		{m: stretch(in(0, 1)), from: ups, to: level(rat(0, 1))},
		{m: stretch(in(0, -1)), from: ups, to: level(rat(0, 1)), same: true},
		{m: charted(0, 1, 1, 0), from: inner, to: beside(rat(1, 1))},
		{m: charted(0, 1, 1, 0), from: beside(rat(1, 1)), to: inner},
		{m: charted(0, 1, 1, 0), from: beside(rat(-1, 1)), to: about(parts(-1, 2, 0, 1), rat(1, 4)), same: true},
		{m: swap(), from: inner, to: beside(rat(-1, 1)), same: true},
		{m: slide(in(3, 4)), from: unit(), to: about(in(3, 4), rat(1, 1)), same: true},
		{m: stretch(flat(rat(1, 2))), from: about(in(0, 0), rat(4, 1)), to: unit(), same: true},
	} {
		for _, sign := range []int{-1, 1} {
			to := verge{x.to, sign, sign > 0}
			if !x.same {
				to.sign *= -1
			}
			got, e := tiles.Image(x.m.mob(), verge{x.from, sign, sign > 0}.side())
			wantSides(t, "Image", got, e, to)
		}
	}
	got, e := tiles.Image(swap().mob())
	wantSides(t, "Image of no sides", got, e)
	got, e = tiles.Image(swap().mob(), modular().tiling().Sides...)
	wantSides(t, "Image of the whole matrices' region", got, e,
		verge{about(in(-1, 0), rat(1, 1)), 1, false}, verge{about(in(1, 0), rat(1, 1)), 1, true}, verge{unit(), -1, true})
}

// P18.2: Where of the image of a point is Where of the point.
func TestImageOfMany(t *testing.T) {
	r, seen := rand.New(rand.NewSource(182)), tally{}
	all, some, by := rings(), spots(), charts()
	look := func(m chart, p spot, l ...verge) {
		t.Helper()
		fits := wantImage(t, m, l...)
		seen[fits]++
		if q := m.at(p); fits == "fits" && q.fits() {
			sides, e := tiles.Image(m.mob(), sidesOf(l...)...)
			wantError(t, "Image", e, api.OK)
			place, e := tiles.Where(q.point(), sides...)
			want(t, "Where of the image", place, e, where(p, l...))
			k, e := tiles.Beyond(q.point(), sides...)
			want(t, "Beyond of the image", k, e, beyond(p, l...))
			seen[map[api.Place]string{api.PlaceOut: "out", api.PlaceIn: "in", api.PlaceRim: "rim"}[place]]++
		}
	}
	for _, m := range by {
		for _, k := range all {
			for _, sign := range []int{-1, 1} {
				s, image := verge{k, sign, sign > 0}, m.image(verge{k, sign, sign > 0})
				look(m, some[r.Intn(len(some))], s)
				seen[map[bool]string{true: "from a line", false: "from a circle"}[s.line()]+map[bool]string{true: " to a line", false: " to a circle"}[image.line()]]++
				seen[map[bool]string{true: "sign stays", false: "sign turns"}[s.sign == image.sign]]++
			}
		}
	}
	for n := range 2000 {
		var l, odds []verge
		for range r.Intn(4) {
			l = append(l, verge{all[r.Intn(len(all))], 2*r.Intn(2) - 1, r.Intn(2) == 0})
			odds = append(odds, oddVerge(r, 3))
		}
		look(by[r.Intn(len(by))], some[r.Intn(len(some))], l...)
		look(oddChart(r, 3), oddSpot(r, 3), odds...)
		if n%20 == 0 {
			look(oddChart(r, 150), oddSpot(r, 150), oddVerge(r, 150))
		}
		if n%1000 == 0 {
			look(oddChart(r, api.MaxWhole), oddSpot(r, 50), oddVerge(r, api.MaxWhole))
		}
	}
	seen.least(t, 20, "from a line to a line", "from a line to a circle", "from a circle to a line", "from a circle to a circle", "sign stays", "sign turns", "fits", "too big", "in", "out", "rim")
}

// P18.2: ErrBig, whichever side's image is too big; one that is just not.
func TestImageTooBig(t *testing.T) {
	big := stretch(flat(ofInt(top())))
	stays := []verge{{beside(rat(0, 1)), 1, true}, {level(rat(0, 1)), -1, false}, {ringed(0, 1, -1, 0), 1, true}}
	if got := wantImage(t, big, stays...); got != "fits" {
		t.Errorf("what stays: %s", got)
	}
	for k := range 16 {
		l := slices.Repeat(stays, 6)[:16]
		l[k] = verge{unit(), 1, true} // the radius squared would be as long as two numbers
		if got := wantImage(t, big, l...); got != "too big" {
			t.Errorf("a side that is too big at %d: %s", k, got)
		}
	}
	for _, x := range []struct {
		m    chart
		k    ring
		want string
	}{
		{slide(flat(ofInt(share(2)))), beside(rat(0, 1)), "fits"},
		{slide(flat(ofInt(share(2)))), beside(rat(1, 2)), "fits"},
		{slide(flat(ofInt(share(2)))), beside(rat(1, 1)), "too big"},
		{slide(flat(opposite(ofInt(share(2))))), beside(rat(1, 1)), "fits"},
		{stretch(flat(ofInt(twos(4095)))), unit(), "fits"},
		{stretch(flat(ofInt(twos(4096)))), unit(), "too big"},
		{stretch(flat(under(twos(4096)))), unit(), "too big"},
		{stretch(num{ofInt(top()), ofInt(top())}), beside(rat(0, 1)), "fits"}, // its inverse would be too big
		{stretch(num{ofInt(top()), ofInt(top())}).turned(), level(rat(0, 1)), "fits"},
		{chart{in(0, 0), flat(ofInt(top())), in(1, 0), in(0, 0), false}, level(rat(0, 1)), "fits"},
	} {
		for _, sign := range []int{-1, 1} {
			if got := wantImage(t, x.m, verge{x.k, sign, true}); got != x.want {
				t.Errorf("an image %s, want that it %s", got, x.want)
			}
		}
	}
}

// P18.2: what may not be, and the order of the errors.
func TestImageRefuses(t *testing.T) {
	good := sidesOf(verge{unit(), 1, true}, verge{beside(rat(1, 2)), -1, false})
	long := slices.Repeat(good, 9)[:17]
	tooBig := stretch(flat(ofInt(top()))).mob()
	if _, e := tiles.Image(bar().mob(), long[:16]...); e != api.OK {
		t.Errorf("Image of 16 sides: %v", e)
	}
	got, e := tiles.Image(bar().mob(), long...)
	wantNoSides(t, "Image of 17 sides", got, e, api.ErrLong)
	got, e = tiles.Image(tooBig, long...)
	wantNoSides(t, "Image of 17 sides, too big", got, e, api.ErrLong)
	for _, m := range wrongMaps() {
		for _, l := range [][]api.Side{nil, good, long} {
			got, e := tiles.Image(m, l...)
			wantNoSides(t, "Image by a wrong map", got, e, api.ErrArg)
		}
	}
	for n, s := range wrongSides() {
		got, e := tiles.Image(bar().mob(), s)
		wantNoSides(t, "Image of a wrong side", got, e, api.ErrArg)
		got, e = tiles.Image(tooBig, good[0], s)
		wantNoSides(t, "Image of a wrong side behind one that is too big", got, e, api.ErrArg)
		l := slices.Clone(long)
		l[n%17] = s
		got, e = tiles.Image(bar().mob(), l...)
		wantNoSides(t, "Image of 17 sides, a wrong one among them", got, e, api.ErrArg)
	}
}
