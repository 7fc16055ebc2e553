package chains_test

import (
	"math/rand"
	"testing"

	"tracery/api"
	"tracery/chains"
)

func wantCarry(t *testing.T, m chart, f quad) {
	t.Helper()
	row, e := chains.Carry(m.mob(), f.disks())
	if !m.exact() {
		wantNone(t, "Carry", row, e, api.ErrNone)
		return
	}
	wantRow(t, "Carry", row, e, m.images(f))
}

func charts() []chart {
	var l []chart
	for _, m := range []chart{
		still(), slide(in(2, -1)), slide(parts(1, 3, 1, 2)), stretch(in(2, 0)), stretch(in(-3, 0)), stretch(in(0, 1)), stretch(in(3, 4)), stretch(parts(5, 12, 1, 1)), flip(),
		round(in(1, 1), in(-1, 2), in(0, 2)), round(parts(1, 2, 0, 1), in(0, 0), parts(3, 1, -4, 1)), round(in(0, 0), in(0, -1), in(1, 0)), round(in(1, 0), in(-2, -1), in(0, 1)),
	} {
		l = append(l, m, m.turned())
	}
	return l
}

func TestCarry(t *testing.T) { // P22.6
	seen, all := tally{}, rows(30)
	for _, m := range charts() {
		for _, f := range all {
			wantCarry(t, m, f)
			g := m.images(f)
			for i, x := range f {
				name := []string{"a rail becomes ", "a rail becomes ", "a disk becomes ", "a disk becomes "}[i]
				seen.when(name+"a half plane", !x.straight() && g[i].straight())
				seen.when(name+"what lies outside", x.bend.Sign() >= 0 && g[i].bend.Sign() < 0)
				seen.when(name+"a disk", x.bend.Sign() <= 0 && g[i].bend.Sign() > 0)
			}
		}
	}
	seen.least(t, 5, "a rail becomes a half plane", "a rail becomes what lies outside", "a rail becomes a disk", "a disk becomes a half plane", "a disk becomes what lies outside", "a disk becomes a disk")
	r := rand.New(rand.NewSource(2260))
	for n := range 150 {
		if f := oddRow(r, 1+n/20); f.fits() {
			wantCarry(t, oddChart(r, 1+n/20), f)
		}
	}
}

func TestCarryExamples(t *testing.T) { // P22.6
	row, e := chains.Carry(still().mob(), chains.Strip())
	want(t, "Carry by what moves nothing", row, e, chains.Strip())
	row, e = chains.Carry(slide(in(2, 0)).mob(), chains.Strip())
	want(t, "Carry by a slide", row, e, strip().on(1).disks())
	row, e = chains.Carry(stretch(in(-1, 0)).turned().mob(), chains.Strip())
	want(t, "Carry by a turning", row, e, quad{strip()[0], strip()[1], strip()[2], about(in(-2, 1), rat(1, 1))}.disks())
	row, e = chains.Carry(flip().mob(), chains.Strip())
	want(t, "Carry by z to 1 / z", row, e, quad{balled(0, 0, 1, 0), about(parts(0, 1, -1, 4), rat(1, 4)), balled(0, 0, -1, 1), about(parts(1, 2, -1, 4), rat(1, 4))}.disks())
}

// rough are maps by which images have no fractions as numbers.
func rough() []chart {
	return []chart{
		stretch(in(1, 1)), stretch(in(1, 1)).turned(), stretch(in(2, 1)), round(in(0, 0), in(0, 0), in(1, 2)), round(in(3, 1), in(2, 2), parts(1, 2, 1, 2)).turned(),
		stretch(num{ofInt(top()), rat(1, 1)}), stretch(num{under(top()), ofInt(top())}), round(num{ofInt(root()), rat(1, 1)}, flat(ofInt(shared(root(), 4))), in(1, 1)),
	}
}

func TestCarryByRoughMaps(t *testing.T) { // P22.6
	all := append(rows(40), gaps()...)
	for _, m := range rough() {
		if !m.fits() || m.exact() {
			t.Fatal("the map is to fit, and to have no images")
		}
		for _, f := range all {
			wantCarry(t, m, f)
		}
	}
}

func TestCarryLong(t *testing.T) { // P22.6
	r := rand.New(rand.NewSource(2261))
	seen := tally{}
	see := func(m chart, f quad) {
		t.Helper()
		if m.fits() && f.fits() {
			g := m.images(f)
			seen.fit(g.fits())
			for i, name := range []string{"a rail alone", "a rail alone", "disk 0 alone", "disk 1 alone"} {
				seen.when(name, !g[i].fits() && g.with(i, f[i]).fits())
			}
			wantCarry(t, m, f)
		}
	}
	long := longRows()
	for n := 0; n < 12; n += 3 {
		for _, f := range []quad{strip(), knot(), knot().swapped(0, 3), long[n%len(long)]} {
			see(stretch(flat(fullRat(r, 1010+2*n))), f)
			see(stretch(fullUnit(r, 490+2*n)), f)
			see(slide(num{fullRat(r, 240+2*n), none()}), f)
			see(slide(num{ofInt(full(r, 501+n)), none()}).turned(), f)
			see(round(in(0, 0), in(0, 0), flat(fullRat(r, 980+4*n))), f)
		}
	}
	for _, k := range []int64{1, 2, 3, 4, 7, 9, 16} {
		m := stretch(flat(ofInt(shared(top(), k))))
		for i := range 4 {
			for _, z := range []num{in(-1, 0), in(0, -2), in(0, -1), in(-2, -2), in(-2, 0), in(-4, -1), in(0, 0), in(1, -1)} {
				see(m, strip().slid(z).swapped(0, i))
			}
		}
	}
	seen.least(t, 5, "fits", "too big", "a rail alone", "disk 0 alone", "disk 1 alone")
	// There and back, so that what is on the way is longer than what is told.
	for range 5 {
		by := flat(fullRat(r, 1015))
		row, e := chains.Carry(stretch(in(1, 0).over(by)).mob(), knot().stretched(by).disks())
		want(t, "Carry back", row, e, knot().disks())
	}
}

func TestCarryRefuses(t *testing.T) { // P22.6
	apart := loose()
	maps := append(rough(), still(), flip().turned(), stretch(flat(ofInt(top()))))
	for _, m := range wrongMaps() {
		for _, f := range append(apart[:12:12], strip(), knot()) {
			row, e := chains.Carry(m, f.disks())
			wantNone(t, "Carry by a wrong map", row, e, api.ErrArg)
		}
		row, e := chains.Carry(m, [4]api.Disk{})
		wantNone(t, "Carry of nothing by a wrong map", row, e, api.ErrArg)
	}
	for _, row := range wrongRows() {
		for _, m := range maps {
			row, e := chains.Carry(m.mob(), row)
			wantNone(t, "Carry of a wrong disk", row, e, api.ErrArg)
		}
	}
	for _, f := range apart {
		for _, m := range maps {
			row, e := chains.Carry(m.mob(), f.disks())
			wantNone(t, "Carry of four that do not touch", row, e, api.ErrTouch)
		}
	}
}
