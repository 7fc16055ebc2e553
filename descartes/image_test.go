package descartes_test

import (
	"math/big"
	"math/rand"
	"testing"

	"tracery/api"
	"tracery/descartes"
)

// wantImage wants the disk of P20.3, and that it holds what it must.
func wantImage(t *testing.T, m chart, x ball) {
	t.Helper()
	d, e := descartes.Image(m.mob(), x.disk())
	if _, exact := m.size(); !exact {
		wantNone(t, "Image", d, e, api.ErrNone)
		return
	}
	y := m.image(x)
	wantDisk(t, "Image", d, e, y)
	if e != api.OK {
		return
	}
	points := append(onEdge(x), far(), on(0, 0), on(1, -1), at(parts(1, 2, 1, 3)), at(parts(-7, 3, 2, 1)))
	for _, p := range points {
		if y.side(m.at(p)) != x.side(p) {
			t.Fatal("a point and its image are on other sides")
		}
	}
}

func TestImage(t *testing.T) { // P20.3
	maps := []chart{still(), slide(in(2, -1)), slide(parts(1, 3, 1, 2)), stretch(in(2, 0)), stretch(in(-3, 0)), stretch(in(0, 1)), stretch(in(3, 4)), stretch(parts(5, 12, 1, 1)), flip(), round(in(1, 1), in(-1, 2), in(0, 2)), round(parts(1, 2, 0, 1), in(0, 0), parts(3, 1, -4, 1))}
	seen := tally{}
	for _, m := range maps {
		for _, m := range []chart{m, m.turned()} {
			for _, x := range grains() {
				wantImage(t, m, x)
				y := m.image(x)
				seen.when("a disk becomes a half plane", !x.straight() && y.straight())
				seen.when("a half plane becomes a disk", x.straight() && !y.straight())
				seen.when("a disk becomes what lies outside", x.bend.Sign() > 0 && y.bend.Sign() < 0)
				seen.when("what lies outside becomes a disk", x.bend.Sign() < 0 && y.bend.Sign() > 0)
				seen.when("stays", x.same(y))
			}
		}
	}
	seen.least(t, 10, "a disk becomes a half plane", "a half plane becomes a disk", "a disk becomes what lies outside", "what lies outside becomes a disk", "stays")
	r := rand.New(rand.NewSource(2030))
	for n := range 200 {
		wantImage(t, oddChart(r, 1+n/20), oddBall(r, 1+n/20))
	}
}

func TestImageExamples(t *testing.T) { // P20.3
	one := about(in(1, 0), rat(1, 1))
	for _, x := range []struct {
		m       chart
		x, want ball
	}{
		{stretch(in(2, 0)), a(), one},
		{still(), c(), c()},
		{still().turned(), c(), about(parts(0, 1, -2, 3), rat(1, 3))},
		{flip(), o(), o().out()},
		{flip(), one, balled(0, 1, 0, 1)}, // Re z at least 1/2
		{flip(), one.out(), balled(0, -1, 0, -1)},
		{flip(), balled(0, 1, 0, 1), one},
		{flip(), balled(0, 0, -1, 0), balled(0, 0, 1, 0)},
		{flip().turned(), balled(0, 0, -1, 0), balled(0, 0, -1, 0)},
		{flip(), about(in(0, 0), rat(2, 1)), about(in(0, 0), rat(-1, 2))},
		{flip(), about(in(2, 0), rat(1, 1)), about(parts(2, 3, 0, 1), rat(1, 3))},
		{flip(), about(in(1, 0), rat(2, 1)), about(parts(-1, 3, 0, 1), rat(-2, 3))},
		{stretch(in(0, 1)), a(), about(parts(0, 1, 1, 2), rat(1, 2))},
		{stretch(in(3, 4)), a(), about(parts(3, 2, 2, 1), rat(5, 2))},
		{stretch(in(3, 4)).turned(), about(in(0, 1), rat(1, 1)), about(in(4, -3), rat(5, 1))},
		{slide(in(0, 5)), balled(0, 0, -1, 0), balled(0, 0, -1, -10)},
	} {
		d, e := descartes.Image(x.m.mob(), x.x.disk())
		want(t, "Image", d, e, x.want.disk())
		wantImage(t, x.m, x.x)
	}
	for _, m := range []chart{stretch(in(1, 1)), stretch(in(1, 1)).turned(), stretch(in(2, 1)), round(in(0, 0), in(0, 0), in(1, 2)), round(in(3, 1), in(2, 2), parts(1, 2, 1, 2)).turned(), stretch(num{ofInt(top()), rat(1, 1)}), stretch(num{under(top()), ofInt(top())})} {
		for _, x := range append(longs(), a(), o(), balled(0, 0, 1, 3)) {
			d, e := descartes.Image(m.mob(), x.disk())
			wantNone(t, "Image by a map without a fraction", d, e, api.ErrNone)
		}
	}
}

func TestImageLong(t *testing.T) { // P20.3
	r := rand.New(rand.NewSource(2031))
	seen := tally{}
	see := func(m chart, x ball) {
		t.Helper()
		if m.fits() && x.fits() {
			seen.fit(m.image(x).fits())
			wantImage(t, m, x)
		}
	}
	long := longs()
	for n := range 12 {
		for _, x := range []ball{a(), balled(0, 1, 0, 3), long[n%len(long)]} {
			see(stretch(flat(fullRat(r, 980+4*n))), x)
			see(stretch(fullUnit(r, 480+2*n)), x)
			see(slide(num{fullRat(r, 490+2*n), none()}), x)
			see(round(in(0, 0), in(0, 0), flat(fullRat(r, 980+4*n))), x)
		}
		f := fullRat(r, 500+n)
		see(round(flat(ofInt(full(r, 500+n))), flat(f), in(0, 2)), about(in(0, 0), rat(1, 3)))
	}
	seen.least(t, 30, "fits", "too big")
	// What is long on the way and short at the end: there and back.
	for range 10 {
		by := fullRat(r, 1020)
		x := stretch(flat(by)).image(a())
		see(stretch(flat(inverse(by))), x)
		d, e := descartes.Image(stretch(flat(inverse(by))).mob(), x.disk())
		want(t, "Image back", d, e, a().disk())
		to := fullRat(r, 500)
		x = slide(flat(to)).image(a())
		d, e = descartes.Image(slide(flat(opposite(to))).mob(), x.disk())
		want(t, "Image back", d, e, a().disk())
	}
}

func TestImageAtTheBound(t *testing.T) { // P20.3
	half := ofInt(twos(8191))
	for _, x := range []struct {
		m    chart
		x    ball
		want api.Errno
	}{
		{stretch(flat(ofInt(top()))), a(), api.OK}, // 2 / top
		{stretch(flat(half)), o(), api.OK},
		{stretch(flat(ofInt(top()))), about(in(0, 0), rat(2, 1)), api.ErrBig},
		{stretch(flat(half)), about(in(0, 0), rat(2, 1)), api.ErrBig},
		{stretch(flat(minus(half, rat(1, 1)))), about(in(0, 0), rat(2, 1)), api.OK},
		{stretch(flat(opposite(under(top())))), about(in(0, 0), rat(-1, 2)), api.ErrBig},
		{slide(flat(ofInt(root()))), about(in(0, 0), rat(1, 1)), api.OK}, // Co is top
		{slide(flat(ofInt(more(root(), 1)))), about(in(0, 0), rat(1, 1)), api.ErrBig},
		{slide(flat(ofInt(top()))), balled(0, 0, 1, 0), api.OK}, // along the line
		{slide(flat(ofInt(top()))), balled(0, 1, 0, 0), api.ErrBig},
		{slide(flat(ofInt(more(twos(8191), -1)))), balled(0, 1, 0, 0), api.OK},
		{round(flat(ofInt(top())), flat(ofInt(top())), in(1, 0)), a(), api.ErrArg}, // B is too long
	} {
		if x.want == api.ErrArg {
			d, e := descartes.Image(x.m.mob(), x.x.disk())
			wantNone(t, "Image by a map that may not be", d, e, x.want)
			continue
		}
		_, e := descartes.Image(x.m.mob(), x.x.disk())
		wantError(t, "Image at the bound", e, x.want)
		wantImage(t, x.m, x.x)
	}
}

func TestImageRefuses(t *testing.T) { // P20.3
	for _, m := range wrongMaps() {
		for _, d := range []api.Disk{a().disk(), {}, longs()[0].disk()} {
			d, e := descartes.Image(m, d)
			wantNone(t, "Image by a wrong map", d, e, api.ErrArg)
		}
	}
	for _, d := range wrongDisks() {
		for _, m := range []chart{still(), stretch(in(1, 1)), stretch(flat(new(big.Rat).SetInt(top()))).turned()} {
			d, e := descartes.Image(m.mob(), d)
			wantNone(t, "Image of a wrong disk", d, e, api.ErrArg)
		}
	}
}
