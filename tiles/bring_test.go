package tiles_test

import (
	"math"
	"math/rand"
	"slices"
	"testing"

	"tracery/api"
	"tracery/tiles"
)

// told is a step as Steps tells it.
type told struct {
	side int
	at   api.Point
}

func stepsOf(t api.Tiling, p api.Point) []told {
	var l []told
	for k, q := range tiles.Steps(t, p) {
		l = append(l, told{k, q})
	}
	return l
}

// steps goes by the words of P18.3, up to a number of steps.
func (d deal) steps(p spot, most int) []told {
	var l []told
	for len(l) < most {
		k := beyond(p, d.sides...)
		if k < 0 {
			break
		}
		if p = d.maps[k].at(p); !p.fits() {
			break
		}
		l = append(l, told{k, p.point()})
	}
	return l
}

// wantBring wants what the chapter's words come to.
func wantBring(t *testing.T, what string, d deal, p spot, most int) api.Errno {
	t.Helper()
	got, e := tiles.Bring(d.tiling(), p.point(), most)
	wanted, refused := d.bring(p, most)
	if refused != api.OK {
		wantNoHomed(t, what, got, e, refused)
	} else {
		wantLanding(t, what, got, e, wanted)
	}
	return refused
}

// P18.3: the whole matrices' tiling.
func TestWhole(t *testing.T) {
	got, wanted := tiles.Whole(), modular().tiling()
	if !slices.Equal(got.Sides, wanted.Sides) || !slices.Equal(got.Maps, wanted.Maps) {
		t.Errorf("the whole matrices' tiling is another one")
	}
	wantError(t, "Check of its sides", tiles.Check(got.Sides...), api.OK)
}

// P18.3: the examples of the chapter.
func TestBringExamples(t *testing.T) {
	h, e := tiles.Bring(tiles.Whole(), on(7, 1).point(), 7)
	wantLanding(t, "7 + i", h, e, landing{on(0, 1), slide(in(-7, 0)), []int{1, 1, 1, 1, 1, 1, 1}})
	h, e = tiles.Bring(tiles.Whole(), on(7, 1).point(), 3)
	wantNoHomed(t, "7 + i in 3 steps", h, e, api.ErrSteps)
	h, e = tiles.Bring(tiles.Whole(), at(parts(3, 5, 4, 5)).point(), 9)
	wantLanding(t, "3/5 + 4/5 i", h, e, landing{at(parts(-1, 2, 1, 1)), charted(-1, 0, 1, -1), []int{1, 3, 1}})
	h, e = tiles.Bring(tiles.Whole(), at(parts(5, 13, 12, 13)).point(), 0)
	wantLanding(t, "a point of the arc to the right, which stays", h, e, landing{at(parts(5, 13, 12, 13)), still(), nil})
	h, e = tiles.Bring(kite().tiling(), on(3, 1).point(), 9)
	wantLanding(t, "3 + i between mirrors", h, e, landing{on(0, 1), slide(in(-3, 0)).behind(still()).turned().behind(bar()), []int{1, 2, 1, 2, 1, 2}})
	if l := stepsOf(tiles.Whole(), on(3, 1).point()); !slices.Equal(l, []told{{0, on(2, 1).point()}, {0, on(1, 1).point()}, {0, on(0, 1).point()}}) {
		t.Errorf("the steps of 3 + i: %v", l)
	}
}

// P18.3: Bring and Steps of many points, with just as many steps as are needed,
// with more, and with less.
func TestBringOfMany(t *testing.T) {
	r, seen := rand.New(rand.NewSource(183)), tally{}
	for _, d := range deals() {
		some := spots()
		for range 20 {
			some = append(some, oddSpot(r, 1), at(num{rat(r.Int63n(100)-50, 1+r.Int63n(30)), rat(r.Int63n(200)-100, 1+r.Int63n(30))}))
		}
		for _, p := range some {
			if !p.inf && p.z.norm().Cmp(rat(1<<40, 1)) > 0 {
				continue // too far to be brought by short steps
			}
			home, e := d.bring(p, 60)
			for _, most := range []int{0, 5, len(home.way) - 1, len(home.way), 60} {
				if most < 0 {
					continue
				}
				got := wantBring(t, d.name, d.deal, p, most)
				seen[got.Error()]++
			}
			if e == api.OK {
				seen["home"]++
				if got := stepsOf(d.tiling(), p.point()); !slices.Equal(got, d.steps(p, api.MaxList)) || len(got) != len(home.way) {
					t.Fatalf("%s: %d steps, want %d", d.name, len(got), len(home.way))
				}
			}
			if len(home.way) == 0 && e == api.OK {
				seen["at home already"]++
			}
		}
	}
	seen.least(t, 100, "home", "at home already", api.OK.Error(), api.ErrSteps.Error())
}

// P18.3: of a point that is not brought home MaxList steps are told, and Bring
// wants one more, whatever it may take.
func TestNoEnd(t *testing.T) {
	for _, x := range []struct {
		name string
		d    deal
		p    spot
	}{
		{"infinity by slides", modular(), far()},
		{"-i by slides and swaps", stuck(swap()), on(0, -1)},
		{"what moves nothing", stuck(still()), on(3, 4)},
		{"what turns", stuck(bar()), on(3, 4)},
		{"what goes on and on", stuck(slide(in(1, 0))), on(0, 0)},
		{"a strip that is passed", deal{[]verge{{beside(rat(0, 1)), 1, true}, {beside(rat(1, 2)), -1, true}}, []chart{slide(in(1, 0)), slide(in(-1, 0))}}, at(parts(3, 4, 0, 1))},
	} {
		l := stepsOf(x.d.tiling(), x.p.point())
		if len(l) != api.MaxList || !slices.Equal(l, x.d.steps(x.p, api.MaxList)) {
			t.Errorf("%s: %d steps", x.name, len(l))
		}
		for _, most := range []int{0, 1, 100, api.MaxList - 1, api.MaxList} {
			h, e := tiles.Bring(x.d.tiling(), x.p.point(), most)
			wantNoHomed(t, x.name, h, e, api.ErrSteps)
		}
		h, e := tiles.Bring(x.d.tiling(), x.p.point(), api.MaxList+1)
		wantNoHomed(t, x.name, h, e, api.ErrLong)
	}
}

// P18.3: a way of just MaxList steps, and one of one more.
func TestAsManySteps(t *testing.T) {
	h, e := tiles.Bring(tiles.Whole(), on(api.MaxList, 1).point(), api.MaxList)
	wantLanding(t, "MaxList steps", h, e, landing{on(0, 1), slide(in(-api.MaxList, 0)), slices.Repeat([]int{1}, api.MaxList)})
	h, e = tiles.Bring(tiles.Whole(), on(api.MaxList, 1).point(), api.MaxList-1)
	wantNoHomed(t, "one step less", h, e, api.ErrSteps)
	h, e = tiles.Bring(tiles.Whole(), on(api.MaxList+1, 1).point(), api.MaxList)
	wantNoHomed(t, "one step more", h, e, api.ErrSteps)
	for far, wanted := range map[int64]int{api.MaxList - 1: api.MaxList - 1, api.MaxList: api.MaxList, api.MaxList + 1: api.MaxList} {
		if l := stepsOf(tiles.Whole(), on(-far, 1).point()); len(l) != wanted {
			t.Errorf("%d steps, want %d", len(l), wanted)
		}
	}
}

// P18.3: ErrBig of a point, of the maps put together, and whichever of ErrBig
// and ErrSteps comes up first.
func TestBringTooBig(t *testing.T) {
	outside := func(m chart) deal { return deal{[]verge{{beside(rat(0, 1)), 1, false}}, []chart{m}} }
	third := slide(flat(opposite(ofInt(share(3)))))
	for _, x := range []struct {
		name  string
		d     deal
		p     spot
		steps int // that are told
		big   int // the step that is refused, 0 if none is
	}{
		{"both, at the first step", outside(slide(in(-1, 0))), at(flat(opposite(ofInt(top())))), 0, 1},
		{"both, at the fourth step", outside(third), on(0, 0), 3, 4},
		{"the point alone", outside(slide(flat(rat(-1, 2)))), at(flat(opposite(ofInt(top())))), 0, 1},
		{"the point, behind a step", outside(slide(flat(rat(-1, 4)))), at(flat(opposite(ofInt(share(2))))), 0, 1},
		{"the point, behind two steps", outside(stretch(in(256, 0))), at(flat(opposite(ofInt(twos(8 * (api.MaxWhole - 3)))))), 2, 3},
		{"both, at the second step", outside(stretch(flat(ofInt(top())))), on(0, 1), 1, 2},
		{"the map alone, of 0", outside(stretch(flat(ofInt(top())))), on(0, 0), api.MaxList, 2},
		{"the map alone, of infinity", outside(third), far(), api.MaxList, 4},
		{"the map alone, of a point that stays", outside(chart{in(3, 0), flat(ofInt(share(3))), in(0, 0), in(1, 0), true}), far(), api.MaxList, 2},
		{"none, though the map's inverse is", deal{[]verge{{unit(), 1, false}}, []chart{stretch(num{ofInt(top()), ofInt(top())})}}, at(flat(under(top()))), 1, 0},
		{"none, as the map comes back", outside(chart{in(0, 0), flat(ofInt(top())), in(1, 0), in(0, 0), false}), on(-1, 0), api.MaxList, 0},
	} {
		if got := stepsOf(x.d.tiling(), x.p.point()); len(got) != x.steps {
			t.Errorf("%s: %d steps are told, want %d", x.name, len(got), x.steps)
		} else if x.steps < api.MaxList && !slices.Equal(got, x.d.steps(x.p, api.MaxList)) {
			t.Errorf("%s: other steps", x.name)
		}
		if x.big == 0 {
			if e := wantBring(t, x.name, x.d, x.p, 5); e == api.ErrBig {
				t.Errorf("%s: %v", x.name, e)
			}
			continue
		}
		for most := range x.big + 2 {
			wanted := api.ErrBig
			if most < x.big {
				wanted = api.ErrSteps
			}
			if e := wantBring(t, x.name, x.d, x.p, most); e != wanted {
				t.Errorf("%s: %v in %d steps", x.name, e, most)
			}
		}
		h, e := tiles.Bring(x.d.tiling(), x.p.point(), api.MaxList)
		wantNoHomed(t, x.name, h, e, api.ErrBig)
	}
}

// P18.3: points and maps of any length, at random.
func TestBringLong(t *testing.T) {
	r, seen := rand.New(rand.NewSource(1830)), tally{}
	for n := range 100 {
		var d deal
		for range 1 + r.Intn(3) {
			d.sides = append(d.sides, oddVerge(r, 2+n%40))
			d.maps = append(d.maps, oddChart(r, 2+n%40))
		}
		p := oddSpot(r, 2+n%40)
		for _, most := range []int{0, 1, 3, 6} {
			seen[wantBring(t, "at random", d, p, most).Error()]++
		}
		var got []told
		for k, q := range tiles.Steps(d.tiling(), p.point()) {
			if got = append(got, told{k, q}); len(got) == 12 {
				break
			}
		}
		if wanted := d.steps(p, 12); !slices.Equal(got, wanted) {
			t.Fatalf("%d steps, want %d", len(got), len(wanted))
		}
	}
	seen.least(t, 50, api.OK.Error(), api.ErrSteps.Error())
}

// P18.3: Steps left early, gone over again, two at a time.
func TestStepsAgain(t *testing.T) {
	for _, d := range deals() {
		p := on(5, 3)
		all, wanted := tiles.Steps(d.tiling(), p.point()), d.steps(p, api.MaxList)
		for _, most := range []int{0, 1, 2, 7, api.MaxList} {
			var got []told
			for k, q := range all {
				if len(got) == most {
					break
				}
				got = append(got, told{k, q})
			}
			if !slices.Equal(got, wanted[:min(most, len(wanted))]) {
				t.Fatalf("%s: %d of %d steps, want %d", d.name, len(got), len(wanted), most)
			}
		}
		n := 0
		for k, q := range all {
			m := 0
			for j, r := range all {
				if m == n && (j != k || r != q) {
					t.Fatalf("%s: the step %d within another range is another one", d.name, n)
				}
				if m++; m > n {
					break
				}
			}
			if n++; n == 5 {
				break
			}
		}
	}
}

// P18.3: what may not be, and the order of the errors.
func TestBringRefuses(t *testing.T) {
	counts := []int{-1, math.MinInt, 0, 9, api.MaxList, api.MaxList + 1, math.MaxInt}
	for _, wrong := range wrongTilings() {
		for _, most := range counts {
			h, e := tiles.Bring(wrong, on(7, 1).point(), most)
			wantNoHomed(t, "a wrong tiling", h, e, api.ErrArg)
		}
		if l := stepsOf(wrong, on(7, 1).point()); l != nil {
			t.Errorf("a wrong tiling has %d steps", len(l))
		}
	}
	for _, p := range wrongPoints() {
		for _, most := range counts {
			h, e := tiles.Bring(tiles.Whole(), p, most)
			wantNoHomed(t, "a wrong point", h, e, api.ErrArg)
		}
		if l := stepsOf(tiles.Whole(), p); l != nil {
			t.Errorf("a wrong point has %d steps", len(l))
		}
	}
	for most, wanted := range map[int]api.Errno{-1: api.ErrArg, math.MinInt: api.ErrArg, api.MaxList + 1: api.ErrLong, math.MaxInt: api.ErrLong, 0: api.ErrSteps} {
		h, e := tiles.Bring(tiles.Whole(), on(7, 1).point(), most)
		wantNoHomed(t, "a wrong count", h, e, wanted)
	}
	h, e := tiles.Bring(tiles.Whole(), on(0, 1).point(), -1)
	wantNoHomed(t, "a point at home in -1 steps", h, e, api.ErrArg)
	h, e = tiles.Bring(tiles.Whole(), on(0, 1).point(), api.MaxList+1)
	wantNoHomed(t, "a point at home in too many steps", h, e, api.ErrLong)
}
