package grid_test

import (
	"math"
	"math/rand"
	"testing"

	"tracery/api"
	"tracery/circ"
	"tracery/gauss"
	"tracery/grid"
	"tracery/mob"
	"tracery/sphere"
)

// must is for calls that refuse nothing here.
func must[T any](t *testing.T) func(x T, e api.Errno) T {
	return func(x T, e api.Errno) T {
		t.Helper()
		if e != api.OK {
			t.Fatal(e)
		}
		return x
	}
}

// made are grids as New makes them.
func made(t *testing.T, do func(g *grid.Grid, right, up num)) {
	t.Helper()
	r := rand.New(rand.NewSource(2670))
	for n := range 60 {
		right, up := steps(r, 1+n/8)
		if n%3 == 0 { // at right angles
			up = right.times(upward(odd(r, 2)))
			if up.zero() {
				up = right.times(in(0, -3))
			}
		}
		do(must[*grid.Grid](t)(grid.New(oddNum(r, 3).gauss(), right.gauss(), up.gauss(), 1+r.Intn(4), 1+r.Intn(4))), right, up)
	}
}

// over goes over the squares of a grid.
func over(g *grid.Grid, do func(i, j int)) {
	w, h := g.Size()
	for j := range h {
		for i := range w {
			do(i, j)
		}
	}
}

func TestWhatNewMakesIsEven(t *testing.T) { // P26.7
	made(t, func(g *grid.Grid, right, up num) {
		first := must[api.Point](t)(g.Ratio(0, 0))
		if r, is := g.Even(); r != first || !is {
			t.Fatalf("Even is %s, %v, want %s", brief(r), is, brief(first))
		}
		over(g, func(i, j int) {
			if r := must[api.Point](t)(g.Ratio(i, j)); r != first {
				t.Fatalf("a ratio is %s, want %s", brief(r), brief(first))
			}
		})
	})
}

func TestRightAngles(t *testing.T) { // P26.7
	asked := 0
	made(t, func(g *grid.Grid, right, up num) {
		if right.conj().times(up).re.Sign() != 0 {
			return
		}
		asked++
		wanted := at(along(opposite(quo(right.norm(), up.norm()))))
		if r, is := g.Even(); r != wanted.point() || !is {
			t.Fatalf("the ratio is %s, %v, want %s", brief(r), is, brief(wanted.point()))
		}
		over(g, func(i, j int) {
			c := must[api.Circle](t)(g.Circle(i, j))
			corners := must[[4]api.Point](t)(g.Corners(i, j))
			if on, e := circ.On(c, corners[:]...); !on || e != api.OK {
				t.Fatalf("the corners are not on %s, %v", brief(c), e)
			}
		})
	})
	if asked < 10 {
		t.Errorf("asked just %d times", asked)
	}
}

func TestImagesOfEvenOnes(t *testing.T) { // P26.7, P0.2
	made(t, func(g *grid.Grid, right, up num) {
		ratio, _ := g.Even()
		for _, m := range charts() {
			image, e := g.Image(m.mob())
			if e != api.OK {
				t.Fatal(e)
			}
			wanted := ratio
			if m.turns {
				wanted = must[api.Point](t)(sphere.Conj(ratio))
			}
			if r, is := image.Even(); r != wanted || !is {
				t.Fatalf("the image's ratio is %s, %v, want %s", brief(r), is, brief(wanted))
			}
		}
	})
}

func TestCirclesGoToCircles(t *testing.T) { // P26.7, P0.2
	asked := 0
	for _, l := range nets() {
		g := l.grid(t)
		for _, m := range charts()[:14] {
			image, e := g.Image(m.mob())
			if e != api.OK {
				continue
			}
			over(g, func(i, j int) {
				c, e := g.Circle(i, j)
				d, f := image.Circle(i, j)
				if e != f {
					t.Fatalf("of a square %v, of its image %v", e, f)
				}
				if e != api.OK {
					return
				}
				asked++
				if wanted := must[api.Circle](t)(circ.Image(m.mob(), c)); d != wanted {
					t.Fatalf("%s, want %s", brief(d), brief(wanted))
				}
			})
		}
	}
	if asked < 500 {
		t.Errorf("asked just %d times", asked)
	}
}

func TestTurnedRatios(t *testing.T) { // P26.7
	for _, l := range nets() {
		g := l.grid(t)
		turned := g.Turn()
		if !g.Same(turned.Turn().Turn().Turn()) {
			t.Fatal("four times turned it is another one")
		}
		w, _ := g.Size()
		over(g, func(i, j int) {
			// The square i, j has its corners where the turned one's j, w - 1 - i has.
			r, e := g.Ratio(i, j)
			s, f := turned.Ratio(j, w-1-i)
			if e != f {
				t.Fatalf("of a square %v, turned %v", e, f)
			}
			if e == api.OK && s != must[api.Point](t)(sphere.Inverse(r)) {
				t.Fatalf("a ratio is %s, turned %s", brief(r), brief(s))
			}
		})
	}
}

func TestMapOfTheImage(t *testing.T) { // P26.7
	for _, l := range nets() {
		g := l.grid(t)
		few := len(unlike(l.l)) < 3
		for _, m := range charts() {
			image, e := g.Image(m.mob())
			if e != api.OK || m.turns {
				continue
			}
			got, e := g.Map(image)
			if few {
				wantNone(t, "Map of less than three unlike points", got, e, api.ErrNone)
				continue
			}
			want(t, "Map of a grid and its image", got, e, m.mob())
			back, e := image.Map(g)
			want(t, "Map back", back, e, must[api.Mob](t)(mob.Inverse(got)))
		}
	}
}

func TestFloatsOfWhatMovesNothing(t *testing.T) { // P26.7, P0.3
	near, _ := ends()
	r := rand.New(rand.NewSource(2671))
	all := nets()
	for range 200 {
		pick := func() spot { return at(num{near[r.Intn(len(near))], near[r.Intn(len(near))]}) }
		all = append(all, listed(1, 1, pick(), pick(), pick(), far()))
	}
	for _, l := range all {
		got, e := l.grid(t).Floats(mob.One())
		if e != api.OK || len(got) != len(l.l) {
			t.Fatalf("Floats: %d of them, %v", len(got), e)
		}
		for k, p := range l.l {
			var z complex128
			if !p.inf {
				z, _ = p.z.near()
			}
			// Noughts are held against each other by ==, all others by bits.
			if got[k].Inf != p.inf || got[k].Z != z || math.IsNaN(real(z)) {
				t.Fatalf("%s is %v", brief(p.point()), got[k])
			}
		}
	}
}

func TestPartsKeepRatios(t *testing.T) { // P26.4
	for _, l := range nets() {
		g := l.grid(t)
		w, h := g.Size()
		part := must[*grid.Grid](t)(g.Part(w-1, h-1, 1, 1))
		r, e := g.Ratio(w-1, h-1)
		s, f := part.Ratio(0, 0)
		if r != s || e != f {
			t.Fatalf("a ratio is %s, %v, of the part %s, %v", brief(r), e, brief(s), f)
		}
	}
}

// What gauss tells of right and up is what New goes by.
func TestFlatIsCross(t *testing.T) { // P26.1
	for n := range 625 {
		right, up := in(int64(n%5-2), int64(n/5%5-2)), in(int64(n/25%5-2), int64(n/125-2))
		area := must[api.Frac](t)(gauss.Cross(right.gauss(), up.gauss()))
		got, e := grid.New(in(1, 1).gauss(), right.gauss(), up.gauss(), 2, 2)
		if area == fraction(none()) {
			wantNoGrid(t, "a flat grid", got, e, api.ErrFlat)
		} else {
			wantGrid(t, "a grid", got, e, laid(in(1, 1), right, up, 2, 2))
		}
	}
}
