package tiles_test

import (
	"math/big"
	"math/rand"
	"testing"

	"tracery/api"
	"tracery/circ"
	"tracery/mob"
	"tracery/tiles"
)

// wantWhole wants a map of a matrix of whole numbers with determinant 1.
func wantWhole(t *testing.T, m api.Mob) {
	t.Helper()
	for _, z := range []api.Gauss{m.A, m.B, m.C, m.D} {
		if z.Im != over(0, 1) {
			t.Fatal("a map that is not real")
		}
	}
	a, b, c, d := ratOf(m.A.Re), ratOf(m.B.Re), ratOf(m.C.Re), ratOf(m.D.Re)
	by := ofInt(d.Denom()) // c and d share nothing
	for _, x := range []*big.Rat{a, b, c, d} {
		if !times(x, by).IsInt() {
			t.Fatal("a map of no whole numbers")
		}
	}
	det := minus(times(a, d), times(b, c))
	if m.Turns || times(det, times(by, by)).Cmp(rat(1, 1)) != 0 {
		t.Fatalf("a map whose determinant is %s", det.FloatString(3))
	}
}

// homes are points at home, on its edges and its corners among them.
func homes(r *rand.Rand) []num {
	var l []num
	for _, z := range edgy() {
		if isHome(z) {
			l = append(l, z)
		}
	}
	for len(l) < 250 {
		if z := (num{odd(r, 2), odd(r, 2)}); z.im.Sign() > 0 {
			w, _, _ := home(z)
			l = append(l, w)
		}
	}
	return l
}

// P18.6: what is brought home from wherever a map of whole numbers leads a point
// that is at home is that point.
func TestHomeIsOne(t *testing.T) {
	r := rand.New(rand.NewSource(186))
	for _, w := range homes(r) {
		is, e := tiles.AtHome(at(w).point())
		want(t, "AtHome", is, e, true)
		for range 4 {
			g, _ := longWord(r, 1+r.Intn(6), 1+r.Intn(4))
			z := g.chart().at(at(w))
			h, e := tiles.Home(z.point())
			if h.Point != at(w).point() || e != api.OK {
				t.Fatalf("%s, %s is brought elsewhere, %v", w.re.FloatString(3), w.im.FloatString(3), e)
			}
			q, e := mob.At(h.Map, z.point())
			want(t, "where the map leads", q, e, h.Point)
			wantWhole(t, h.Map)
			if is, e := tiles.AtHome(z.point()); is != (z.point() == h.Point) || e != api.OK {
				t.Fatalf("another point is at home: %v", e)
			}
		}
	}
}

// P18.6: Home answers each point of the upper half plane, as long as the answer
// may be.
func TestHomeAlways(t *testing.T) {
	r, seen := rand.New(rand.NewSource(1860)), tally{}
	for n := range 400 {
		most := []int{1, 4, 40, 250, api.MaxWhole}[n%5]
		z := num{odd(r, most), odd(r, most)}
		if z.im.Sign() <= 0 {
			z.im = plus(opposite(z.im), under(twos(uint(r.Intn(8)))))
		}
		if !z.fits() {
			continue
		}
		h, e := tiles.Home(at(z).point())
		if seen[e.Error()]++; e == api.ErrBig {
			wantNoHomed(t, "Home", h, e, api.ErrBig)
			continue
		}
		is, wrong := tiles.AtHome(h.Point)
		want(t, "AtHome of Home", is, wrong, true)
		q, wrong := mob.At(h.Map, at(z).point())
		want(t, "where the map leads", q, wrong, h.Point)
		wantWhole(t, h.Map)
		again, wrong := tiles.Home(h.Point)
		if again.Point != h.Point || again.Map != still().mob() || again.Turns != 0 || wrong != api.OK {
			t.Fatalf("Home of Home is elsewhere: %v", wrong)
		}
	}
	seen.least(t, 20, api.OK.Error(), api.ErrBig.Error())
}

// P18.6: Bring by the whole matrices' tiling leads to the same point, but on the
// arc to the right, where it stays.
func TestBringAndHome(t *testing.T) {
	r, seen := rand.New(rand.NewSource(1861)), tally{}
	some := edgy()
	for range 200 {
		some = append(some, num{rat(r.Int63n(200)-100, 1+r.Int63n(40)), rat(1+r.Int63n(60), 1+r.Int63n(40))})
	}
	for _, z := range some {
		if z.im.Sign() <= 0 {
			continue
		}
		h, e := tiles.Home(at(z).point())
		wantError(t, "Home", e, api.OK)
		b, e := tiles.Bring(tiles.Whole(), at(z).point(), api.MaxList)
		if e == api.ErrSteps {
			continue
		}
		wantError(t, "Bring", e, api.OK)
		if b.Point == h.Point {
			seen["the same"]++
			continue
		}
		seen["turned over"]++
		if q, e := mob.At(swap().mob(), b.Point); q != h.Point || e != api.OK || circOf(t, b.Point) != 0 {
			t.Errorf("Bring leads elsewhere than Home: %v", e)
		}
	}
	seen.least(t, 5, "the same", "turned over")
}

func circOf(t *testing.T, p api.Point) int { return must[int](t)(circ.Side(unit().circle(), p)) }

// P18.6: the point is within all of the tile of its way, as the point is that it
// brings home; of a point within all sides the way is empty.
func TestTileOfTheWay(t *testing.T) {
	r, seen := rand.New(rand.NewSource(1862)), tally{}
	for _, d := range deals() {
		t1 := d.tiling()
		some := spots()
		for range 20 {
			some = append(some, oddSpot(r, 1), at(num{rat(r.Int63n(60)-30, 1+r.Int63n(9)), rat(r.Int63n(60)-30, 1+r.Int63n(9))}))
		}
		for _, p := range some {
			h, e := tiles.Bring(t1, p.point(), 100)
			if within := must[int](t)(tiles.Beyond(p.point(), t1.Sides...)) < 0; within != (len(h.Way) == 0 && e == api.OK) {
				t.Fatalf("%s: a way of %d, %v", d.name, len(h.Way), e)
			}
			if e != api.OK {
				seen["elsewhere"]++
				continue
			}
			tile := must[[]api.Side](t)(tiles.Tile(t1, h.Way...))
			k, e := tiles.Beyond(p.point(), tile...)
			want(t, "Beyond of the tile", k, e, -1)
			place, e := tiles.Where(p.point(), tile...)
			want(t, "Where of the tile", place, e, must[api.Place](t)(tiles.Where(h.Point, t1.Sides...)))
			back := must[api.Mob](t)(mob.Inverse(h.Map))
			image := must[[]api.Side](t)(tiles.Image(back, t1.Sides...))
			for n := range image {
				if image[n] != tile[n] {
					t.Fatalf("%s: the tile is not the region's image", d.name)
				}
			}
			seen[map[api.Place]string{api.PlaceIn: "in", api.PlaceRim: "rim"}[place]]++
		}
	}
	seen.least(t, 50, "in", "rim", "elsewhere")
}

// P18.2: an image of an image is that by both maps; the way back leads back.
func TestImagesCompose(t *testing.T) {
	r := rand.New(rand.NewSource(1863))
	for range 300 {
		l := sidesOf(oddVerge(r, 3), oddVerge(r, 3), oddVerge(r, 3))
		m, n := oddChart(r, 3).mob(), oddChart(r, 3).mob()
		once := must[[]api.Side](t)(tiles.Image(n, l...))
		twice := must[[]api.Side](t)(tiles.Image(m, once...))
		both := must[[]api.Side](t)(tiles.Image(must[api.Mob](t)(mob.Compose(m, n)), l...))
		back := must[[]api.Side](t)(tiles.Image(must[api.Mob](t)(mob.Inverse(n)), once...))
		for k := range l {
			if twice[k] != both[k] || back[k] != l[k] {
				t.Fatal("images do not compose")
			}
		}
	}
}
