package tiles_test

import (
	"math/big"
	"math/rand"
	"testing"

	"tracery/api"
	"tracery/mob"
	"tracery/tiles"
)

// wantHome wants what the chapter's words come to.
func wantHome(t *testing.T, z num) string {
	t.Helper()
	got, e := tiles.Home(at(z).point())
	w, m, turns := home(z)
	switch {
	case !w.fits():
		wantNoHomed(t, "Home", got, e, api.ErrBig)
		return "the point is too big"
	case !m.fits():
		wantNoHomed(t, "Home", got, e, api.ErrBig)
		return "the map is too big"
	}
	if got.Point != at(w).point() || got.Map != m.mob() || got.Turns != turns || len(got.Way) != 0 || e != api.OK {
		t.Fatalf("the home of %s, %s is elsewhere, with %d turns, %v, want %d", z.re.FloatString(3), z.im.FloatString(3), got.Turns, e, turns)
	}
	return "fits"
}

// isHome goes by the words of the chapter.
func isHome(z num) bool {
	size := z.norm().Cmp(rat(1, 1))
	return z.im.Sign() > 0 && z.re.Cmp(rat(-1, 2)) >= 0 && z.re.Cmp(rat(1, 2)) < 0 && (size > 0 || size == 0 && z.re.Sign() <= 0)
}

// P18.4: the examples of the chapter, and of the document.
func TestHomeExamples(t *testing.T) {
	for _, x := range []struct {
		z, w  num
		m     chart
		turns int
	}{
		{in(7, 1), in(0, 1), slide(in(-7, 0)), 0},
		{parts(0, 1, 1, 2), in(0, 2), swap(), 1},
		{parts(1, 2, 2, 1), parts(-1, 2, 2, 1), slide(in(-1, 0)), 0},
		{parts(3, 5, 4, 5), parts(-1, 2, 1, 1), charted(-1, 0, 1, -1), 1},
		{in(0, 1), in(0, 1), still(), 0},
		{parts(5, 13, 12, 13), parts(-5, 13, 12, 13), swap(), 1},
		{parts(-5, 13, 12, 13), parts(-5, 13, 12, 13), still(), 0},
		{parts(-1, 2, 1, 1), parts(-1, 2, 1, 1), still(), 0},
		{parts(-3, 2, 1, 1), parts(-1, 2, 1, 1), slide(in(1, 0)), 0},
	} {
		got, e := tiles.Home(at(x.z).point())
		if got.Point != at(x.w).point() || got.Map != x.m.mob() || got.Turns != x.turns || len(got.Way) != 0 || e != api.OK {
			t.Errorf("Home: %v turns, %v", got.Turns, e)
		}
	}
	for p, wanted := range map[spot]bool{on(0, 1): true, at(parts(1, 2, 2, 1)): false, at(parts(-1, 2, 2, 1)): true, far(): false} {
		got, e := tiles.AtHome(p.point())
		want(t, "AtHome", got, e, wanted)
	}
}

// edgy are points on all edges of the home and next to them.
func edgy() []num {
	l := []num{parts(-1, 2, 1, 1), parts(1, 2, 1, 1), parts(0, 1, 1, 1), parts(-1, 2, 7, 8), parts(-1, 2, 6, 7), parts(1, 2, 7, 8), parts(1, 2, 6, 7)}
	for _, arc := range [][3]int64{{3, 4, 5}, {5, 12, 13}, {8, 15, 17}, {7, 24, 25}, {20, 21, 29}, {9, 40, 41}, {28, 45, 53}, {1, 0, 1}, {33, 56, 65}, {16, 63, 65}} {
		for _, by := range []*big.Rat{rat(1, 1), rat(999, 1000), rat(1001, 1000), minus(rat(1, 1), under(twos(900))), plus(rat(1, 1), under(twos(900)))} {
			for _, sign := range []int64{1, -1} {
				z := num{times(by, rat(sign*arc[0], arc[2])), times(by, rat(arc[1], arc[2]))}
				l = append(l, z, num{z.im, times(by, rat(arc[0], arc[2]))}, num{opposite(z.im), times(by, rat(arc[0], arc[2]))})
			}
		}
	}
	for _, im := range []*big.Rat{rat(1, 1), rat(7, 8), rat(100, 3), rat(1, 100), under(twos(600))} {
		for _, re := range []*big.Rat{rat(1, 2), rat(-1, 2), minus(rat(1, 2), under(twos(900))), plus(rat(-1, 2), under(twos(900))), minus(rat(-1, 2), under(twos(900))), rat(3, 2), rat(-7, 2), rat(0, 1)} {
			l = append(l, num{re, im})
		}
	}
	return l
}

// P18.4: points on the edges.
func TestHomeEdges(t *testing.T) {
	seen := tally{}
	for _, z := range edgy() {
		got, e := tiles.AtHome(at(z).point())
		want(t, "AtHome", got, e, isHome(z))
		if z.im.Sign() <= 0 {
			continue
		}
		seen[wantHome(t, z)]++
		seen[map[bool]string{true: "home", false: "away"}[got]]++
		_, m, turns := home(z)
		if z.norm().Cmp(rat(1, 1)) == 0 && turns == 1 && m.mob() == swap().mob() {
			seen["turned over from the arc"]++
		}
		if w, _, _ := home(z); w.norm().Cmp(rat(1, 1)) == 0 {
			seen["at home on the arc"]++
		}
	}
	seen.least(t, 5, "home", "away", "turned over from the arc", "at home on the arc")
}

// P18.4: points at random, near to the real axis and far out among them.
func TestHomeOfMany(t *testing.T) {
	r, seen := rand.New(rand.NewSource(184)), tally{}
	for n := range 1500 {
		z := num{odd(r, 3), odd(r, 3)}
		if n%3 == 1 {
			z.im = times(z.im, under(twos(uint(r.Intn(200)))))
		}
		if n%5 == 1 {
			z.re = times(z.re, ofInt(twos(uint(r.Intn(2000)))))
		}
		if n%50 == 7 {
			z = num{odd(r, 300), odd(r, 300)}
		}
		got, e := tiles.AtHome(at(z).point())
		want(t, "AtHome", got, e, isHome(z))
		if z.im.Sign() > 0 {
			seen[wantHome(t, z)]++
		}
		seen[map[bool]string{true: "home", false: "away"}[got]]++
	}
	seen.least(t, 20, "fits", "home", "away")
}

// P18.4: far out, near to the real axis, and as long as may be.
func TestHomeLong(t *testing.T) {
	for _, x := range []struct {
		z    num
		want string
	}{
		{num{ofInt(top()), rat(1, 1)}, "fits"},
		{num{opposite(ofInt(top())), rat(1, 1)}, "fits"},
		{num{ofInt(top()), ofInt(top())}, "fits"},
		{num{ofInt(top()), under(top())}, "fits"},
		{num{opposite(ofInt(top())), under(top())}, "fits"},
		{num{rat(0, 1), under(top())}, "fits"},
		{num{rat(1, 2), under(top())}, "fits"},
		{num{rat(1, 3), under(top())}, "fits"},
		{num{rat(-1, 7), under(top())}, "fits"},
		{num{under(top()), under(top())}, "fits"},
		{num{under(top()), rat(1, 1)}, "fits"},
		{num{under(top()), minus(rat(1, 1), under(top()))}, "the point is too big"},
		{num{opposite(under(top())), rat(2, 1)}, "fits"},
		{num{new(big.Rat).SetFrac(share(2), top()), rat(2, 1)}, "fits"},
		{num{under(top()), times(rat(2, 1), under(top()))}, "fits"},
		{num{under(top()), under(share(2))}, "the point is too big"},
		{num{under(top()), under(new(big.Int).Sub(top(), big.NewInt(1)))}, "the point is too big"},
	} {
		if got := wantHome(t, x.z); got != x.want {
			t.Errorf("%s, %s: %s, want %s", x.z.re.FloatString(2), x.z.im.FloatString(2), got, x.want)
		}
	}
}

// grown is a matrix of whole numbers with determinant 1.
type grown [4]*big.Int

// longWord puts slides and swaps together till the numbers below have so many
// bytes.
func longWord(r *rand.Rand, bytes, most int) (grown, int) {
	g, turns := grown{big.NewInt(1), new(big.Int), new(big.Int), big.NewInt(1)}, 0
	for len(g[2].Bytes()) < bytes {
		n := big.NewInt(int64(3 + r.Intn(most)))
		if r.Intn(2) == 0 {
			n.Neg(n)
		}
		add := func(a, b *big.Int) *big.Int { return new(big.Int).Add(a, new(big.Int).Mul(n, b)) }
		g = grown{new(big.Int).Neg(g[2]), new(big.Int).Neg(g[3]), add(g[0], g[2]), add(g[1], g[3])}
		turns++
	}
	return g, turns
}

func (g grown) chart() chart {
	return chart{a: flat(ofInt(g[0])), b: flat(ofInt(g[1])), c: flat(ofInt(g[2])), d: flat(ofInt(g[3]))}.formed()
}

// P18.4: where the way is long, and numbers on it are longer than may be, ErrBig
// is of what is answered alone.
func TestHomeLongWays(t *testing.T) {
	r, seen := rand.New(rand.NewSource(1840)), tally{}
	for n := range 40 {
		w := []num{in(0, 2), parts(1, 3, 3, 2), parts(-1, 2, 5, 4), in(0, 1), parts(-2, 5, 9, 5)}[n%5]
		g, turns := longWord(r, 500, []int{1, 3, 50, 1 << 30}[n%4])
		z := g.chart().at(at(w))
		if !z.fits() {
			seen["too long to begin with"]++
			continue
		}
		got, e := tiles.Home(z.point())
		back := g.chart().inverse()
		if got.Point != at(w).point() || got.Map != back.mob() && n%5 != 3 || e != api.OK {
			t.Fatalf("a way of %d turns leads elsewhere, %v", turns, e)
		}
		if got.Turns < turns-1 || got.Turns > turns+1 {
			t.Errorf("%d turns, want some %d", got.Turns, turns)
		}
		q, e := mob.At(got.Map, z.point())
		want(t, "where the map leads", q, e, got.Point)
		seen["home"]++
	}
	seen.least(t, 20, "home")
}

// P18.4: what may not be, and where there is no home.
func TestHomeRefuses(t *testing.T) {
	for _, p := range wrongPoints() {
		got, e := tiles.Home(p)
		wantNoHomed(t, "Home of a wrong point", got, e, api.ErrArg)
		is, e := tiles.AtHome(p)
		wantNone(t, "AtHome of a wrong point", is, e, api.ErrArg)
	}
	low := []spot{far(), on(0, 0), on(1, 0), on(0, -1), on(7, -2), at(num{rat(0, 1), opposite(under(top()))}), at(num{rat(0, 1), opposite(ofInt(top()))}), at(flat(ofInt(top()))), at(flat(under(top())))}
	for _, p := range low {
		got, e := tiles.Home(p.point())
		wantNoHomed(t, "Home of a point that is not above the real line", got, e, api.ErrNone)
		is, e := tiles.AtHome(p.point())
		want(t, "AtHome of such a point", is, e, false)
	}
}
