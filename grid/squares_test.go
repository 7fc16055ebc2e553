package grid_test

import (
	"math/rand"
	"testing"

	"tracery/api"
	"tracery/grid"
)

// all goes over the squares in their order.
func (g lattice) all(do func(i, j int, l four)) {
	for j := range g.h {
		for i := range g.w {
			do(i, j, g.four(i, j))
		}
	}
}

// beyond goes over numbers of no square, at both sides.
func (g lattice) beyond(do func(i, j int)) {
	for _, i := range append(outside(g.w-1), g.w) {
		for _, j := range []int{0, g.h - 1, g.h, -1} {
			do(i, j)
		}
	}
	for _, j := range append(outside(g.h-1), g.h) {
		for _, i := range []int{0, g.w - 1, g.w, -1} {
			do(i, j)
		}
	}
}

func TestCorners(t *testing.T) { // P26.3
	for _, g := range nets() {
		made := g.grid(t)
		g.all(func(i, j int, l four) {
			got, e := made.Corners(i, j)
			want(t, "Corners", got, e, [4]api.Point{l[0].point(), l[1].point(), l[2].point(), l[3].point()})
		})
		g.beyond(func(i, j int) {
			got, e := made.Corners(i, j)
			wantNone(t, "corners of no square", got, e, api.ErrNone)
		})
	}
	g := laid(in(0, 0), in(1, 0), in(0, 1), 64, 64)
	got, e := g.grid(t).Corners(63, 63)
	want(t, "the last corners", got, e, [4]api.Point{on(63, 63).point(), on(64, 63).point(), on(64, 64).point(), on(63, 64).point()})
}

func wantRatio(t *testing.T, seen tally, made *grid.Grid, i, j int, l four) {
	t.Helper()
	got, e := made.Ratio(i, j)
	wanted, is := l.ratio()
	switch {
	case !is:
		seen["none"]++
		wantNone(t, "a ratio that is not there", got, e, api.ErrSame)
	case !wanted.fits():
		seen["too big"]++
		wantNone(t, "a ratio that is too big", got, e, api.ErrBig)
	default:
		seen["fits"]++
		if wanted.inf {
			seen["infinity"]++
		}
		want(t, "Ratio", got, e, wanted.point())
	}
}

// brink are squares whose ratio has about as many bytes as may be.
func brink() []lattice {
	r := rand.New(rand.NewSource(2630))
	var l []lattice
	for n := range 24 {
		reals := func() spot { return at(along(long(r, 244+n))) }
		l = append(l, listed(1, 1, reals(), reals(), reals(), reals()))
		l = append(l, listed(1, 1, at(longNum(r, 58+n/2)), at(longNum(r, 58+n/2)), at(longNum(r, 58+n/2)), at(longNum(r, 58+n/2))))
	}
	return l
}

func TestRatio(t *testing.T) { // P26.3
	seen := tally{}
	for _, g := range append(nets(), brink()...) {
		made := g.grid(t)
		g.all(func(i, j int, l four) { wantRatio(t, seen, made, i, j, l) })
		g.beyond(func(i, j int) {
			got, e := made.Ratio(i, j)
			wantNone(t, "the ratio of no square", got, e, api.ErrNone)
		})
	}
	squares(func(g lattice) { wantRatio(t, seen, g.grid(t), 0, 0, g.four(0, 0)) })
	seen.least(t, 10, "none", "too big", "fits", "infinity")
}

func wantEven(t *testing.T, seen tally, g lattice) {
	t.Helper()
	got, is := g.grid(t).Even()
	wanted, even := g.even()
	if !even || !wanted.fits() {
		seen["not"]++
		if even {
			seen["too big"]++
		}
		if got != (api.Point{}) || is {
			t.Fatalf("Even is %s, %v, want nothing", brief(got), is)
		}
		return
	}
	seen["even"]++
	if wanted.inf {
		seen["infinity"]++
	}
	if got != wanted.point() || !is {
		t.Fatalf("Even is %s, %v, want %s", brief(got), is, brief(wanted.point()))
	}
}

// waved is an even grid with infinity, 0 or 1 as its ratio: points that are the
// same stand beside each other, one above the other, or across.
func waved(kind, w, h int, p, q spot) lattice {
	g := lattice{w: w, h: h}
	for j := range h + 1 {
		for i := range w + 1 {
			k := [3]int{j, i, i + j}[kind] % 2
			g.l = append(g.l, [2]spot{p, q}[k])
		}
	}
	return g
}

func TestEven(t *testing.T) { // P26.3
	seen := tally{}
	for _, g := range append(nets(), brink()...) {
		wantEven(t, seen, g)
	}
	squares(func(g lattice) { wantEven(t, seen, g) })
	for kind := range 3 {
		for _, l := range [][2]spot{{on(0, 0), on(1, 2)}, {far(), on(1, 0)}, {at(parts(1, 3, 1, 2)), far()}} {
			for _, side := range [][2]int{{1, 1}, {2, 1}, {1, 3}, {3, 4}} {
				g := waved(kind, side[0], side[1], l[0], l[1])
				wantEven(t, seen, g)
				wantEven(t, seen, g.with(len(g.l)-1, on(7, 7)))
				wantEven(t, seen, g.with(len(g.l)-1, g.l[len(g.l)-2]))
			}
		}
	}
	seen.least(t, 10, "not", "even", "infinity", "too big")
}

// One square that is not as the others are, wherever it stands.
func TestEvenAsksAllSquares(t *testing.T) { // P26.3
	seen := tally{}
	r := rand.New(rand.NewSource(2631))
	for _, m := range charts()[:12] {
		g := laid(in(1, 1), in(2, 1), parts(-1, 2, 1, 1), 3, 2).image(m)
		wantEven(t, seen, g)
		for k := range g.l {
			wantEven(t, seen, g.with(k, on(11, 12)))
			wantEven(t, seen, g.with(k, far()))
			wantEven(t, seen, g.with(k, at(longNum(r, 300)))) // a ratio that is too big
			wantEven(t, seen, g.with(k, g.l[(k+1)%len(g.l)]))
		}
	}
	// Squares without a ratio among even ones: ahead, behind, in the midst.
	for _, g := range []lattice{
		listed(2, 1, on(0, 0), on(1, 0), on(1, 0), on(0, 1), on(1, 1), on(1, 0)), listed(2, 1, on(0, 0), on(0, 0), on(1, 0), on(0, 0), on(0, 0), on(0, 1)),
		listed(1, 2, on(0, 0), on(1, 0), on(0, 1), on(1, 1), on(1, 1), on(1, 1)), listed(2, 1, on(0, 0), on(0, 0), on(1, 0), on(0, 0), on(0, 0), on(1, 0)), listed(1, 1, far(), far(), far(), far()),
	} {
		wantEven(t, seen, g)
	}
	seen.least(t, 10, "not", "even")
}

// Squares that all have the same ratio, which is too big.
func TestEvenRatioTooBig(t *testing.T) { // P26.3
	r := rand.New(rand.NewSource(2632))
	den := full(r, 900)
	up := num{ratio(full(r, 900), den), ratio(full(r, 900), den)}
	for _, x := range []struct {
		right, up num
		is        bool
	}{
		// The ratio is minus the square of right over up.
		{in(1, 0), upward(ofInt(twos(4095))), true}, {in(1, 0), upward(ofInt(twos(4096))), false}, {along(ofInt(twos(4095))), in(0, 1), true}, {along(ofInt(twos(4096))), in(0, 1), false}, {in(1, 0), up, false}, {up, up.times(in(0, 3)), true},
	} {
		g := laid(in(0, 0), x.right, x.up, 2, 2)
		wanted, even := g.even()
		if !even || wanted.fits() != x.is {
			t.Fatalf("the grid is not as the test has it: %v, %v", even, wanted.fits())
		}
		wantEven(t, tally{}, g)
		wantEven(t, tally{}, g.part(0, 0, 1, 1))
	}
}

// As many squares, and as long points, as may be.
func TestEvenOfLongPoints(t *testing.T) { // P26.3, P26.7
	r := rand.New(rand.NewSource(2633))
	den := full(r, api.MaxWhole)
	right := num{ratio(full(r, 1022), den), ratio(full(r, 1022), den)}
	up := right.times(in(0, 2))
	made, e := grid.New(num{ratio(full(r, 1023), den), ratio(full(r, 1023), den)}.gauss(), right.gauss(), up.gauss(), 64, 64)
	if e != api.OK {
		t.Fatal(e)
	}
	if got, is := made.Even(); got != at(parts(-1, 4, 0, 1)).point() || !is {
		t.Errorf("Even is %s, %v", brief(got), is)
	}
}

func wantCircle(t *testing.T, seen tally, made *grid.Grid, i, j int, l four) {
	t.Helper()
	got, e := made.Circle(i, j)
	wanted, is := l.circle()
	switch {
	case !is:
		seen["none"]++
		wantNone(t, "a circle that is not there", got, e, api.ErrNone)
	case !wanted.fits():
		seen["too big"]++
		wantNone(t, "a circle that is too big", got, e, api.ErrBig)
	default:
		seen["fits"]++
		if wanted.a.Sign() == 0 {
			seen["line"]++
		}
		want(t, "Circle", got, e, wanted.circle())
	}
}

func TestCircle(t *testing.T) { // P26.3
	seen := tally{}
	for _, g := range nets() {
		made := g.grid(t)
		g.all(func(i, j int, l four) { wantCircle(t, seen, made, i, j, l) })
		g.beyond(func(i, j int) {
			got, e := made.Circle(i, j)
			wantNone(t, "the circle of no square", got, e, api.ErrNone)
		})
	}
	squares(func(g lattice) { wantCircle(t, seen, g.grid(t), 0, 0, g.four(0, 0)) })
	seen.least(t, 20, "none", "fits", "line")
}

// A circle through three corners that is too big is refused only where the last
// corner is on it.
func TestCircleTooBig(t *testing.T) { // P26.3
	seen := tally{}
	r := rand.New(rand.NewSource(2634))
	for n := range 16 {
		// C is as long as two parts.
		size := 250 + 2*n
		right := num{ofInt(full(r, 2)), ofInt(full(r, 3))}
		g := laid(num{ratio(full(r, size), full(r, size)), ratio(full(r, size), full(r, size))}, right, right.times(in(0, 1)), 1, 1)
		for _, k := range []int{0, 1, 2, 3} {
			wantCircle(t, seen, g.grid(t), 0, 0, g.four(0, 0))
			off := g.with(k, at(longNum(r, size)))
			wantCircle(t, seen, off.grid(t), 0, 0, off.four(0, 0))
			three := g.with(k, g.l[(k+1)%4])
			wantCircle(t, seen, three.grid(t), 0, 0, three.four(0, 0))
			two := three.with((k+2)%4, three.l[(k+3)%4])
			wantCircle(t, seen, two.grid(t), 0, 0, two.four(0, 0))
		}
	}
	seen.least(t, 15, "none", "fits", "too big")
	// The circles about 0 whose C is 2 to the power 8190, and 8192.
	for _, x := range []struct {
		power uint
		want  api.Errno
	}{{4095, api.OK}, {4096, api.ErrBig}} {
		a := along(ofInt(twos(x.power)))
		g := listed(1, 1, at(a), at(a.times(in(0, 1))), at(a.times(in(0, -1))), at(a.neg()))
		got, e := g.grid(t).Circle(0, 0)
		if e != x.want {
			t.Errorf("a circle at the bound: %s, %v", brief(got), e)
		}
		wantCircle(t, seen, g.grid(t), 0, 0, g.four(0, 0))
	}
	// With corners as long as may be: on no circle, two of them the same.
	wild := listed(1, 1, at(longNum(r, 1024)), at(longNum(r, 1024)), at(longNum(r, 1024)), at(longNum(r, 1024)))
	got, e := wild.grid(t).Circle(0, 0)
	wantNone(t, "long corners on no circle", got, e, api.ErrNone)
	got, e = wild.with(2, wild.l[0]).grid(t).Circle(0, 0)
	wantNone(t, "three long corners", got, e, api.ErrBig)
	got, e = wild.with(2, wild.l[0]).with(3, wild.l[1]).grid(t).Circle(0, 0)
	wantNone(t, "two long corners", got, e, api.ErrNone)
}
