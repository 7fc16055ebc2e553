package meet_test

import (
	"math/big"
	"math/rand"
	"slices"
	"testing"

	"tracery/api"
	"tracery/meet"
)

// wantPoints wants what the chapter says of the points of two circles, and
// answers which of its cases it was.
func wantPoints(t *testing.T, k, l ring) string {
	t.Helper()
	got, e := meet.Points(k.circle(), l.circle())
	none := func(wanted api.Errno, what string) string {
		t.Helper()
		if len(got) != 0 || e != wanted {
			t.Fatalf("the points of%s:%s, %v, want none and %v", briefRings(k, l), briefs(got...), e, wanted)
		}
		return what
	}
	lies := k.lies(l)
	if lies == api.LiesSame || lies == api.LiesApart {
		return none(api.ErrNone, "ErrNone")
	}
	points, exact := k.shared(l)
	if !exact {
		if lies == api.LiesTouching {
			t.Fatalf("%s touch at no exact point", briefRings(k, l))
		}
		return none(api.ErrRoot, "ErrRoot")
	}
	for _, p := range points {
		if !p.fits() {
			return none(api.ErrBig, "ErrBig")
		}
	}
	if !slices.Equal(got, pointsOf(points...)) || e != api.OK {
		t.Fatalf("the points of%s are%s, %v, want%s", briefRings(k, l), briefs(got...), e, briefs(pointsOf(points...)...))
	}
	if lies == api.LiesTouching {
		return "one"
	}
	return "two"
}

func TestPoints(t *testing.T) { // P13.2
	seen := tally{}
	pairs(func(k, l ring) { seen[wantPoints(t, k, l)]++ })
	seen.least(t, 50, "ErrNone", "ErrRoot", "one", "two")
}

func TestPointsExamples(t *testing.T) { // P13.2
	slope := ringed(0, 1, 1, 0) // Re z = Im z
	for _, x := range []struct {
		k, l ring
		want []spot
		e    api.Errno
	}{
		{o(0, 0, 1), o(2, 0, 1), []spot{on(1, 0)}, api.OK}, {o(0, 0, 5), o(6, 0, 5), []spot{on(3, -4), on(3, 4)}, api.OK},
		{o(0, 0, 1), o(1, 0, 1), nil, api.ErrRoot}, {slope, reals(), []spot{on(0, 0), far()}, api.OK}, {ups(), reals(), []spot{on(0, 0), far()}, api.OK},
		{o(0, 0, 2), o(0, 1, 1), []spot{on(0, 2)}, api.OK}, {o(0, 0, 1), beside(rat(1, 1)), []spot{on(1, 0)}, api.OK}, {beside(rat(1, 1)), beside(rat(2, 1)), []spot{far()}, api.OK},
		{reals(), ringed(0, 0, 1, 7), []spot{far()}, api.OK}, {slope, ringed(0, 1, 1, 3), []spot{far()}, api.OK}, {slope, ringed(0, 1, -1, -4), []spot{on(1, 1), far()}, api.OK},
		{o(0, 0, 1), reals(), []spot{on(-1, 0), on(1, 0)}, api.OK}, {o(0, 0, 1), ups(), []spot{on(0, -1), on(0, 1)}, api.OK}, {o(0, 0, 5), beside(rat(3, 1)), []spot{on(3, -4), on(3, 4)}, api.OK},
		{o(0, 0, 1), slope, nil, api.ErrRoot}, {o(0, 0, 1), beside(rat(1, 2)), nil, api.ErrRoot},
		{o(0, 0, 1), o(0, 0, 1), nil, api.ErrNone}, {reals(), reals(), nil, api.ErrNone}, {o(0, 0, 1), o(5, 0, 1), nil, api.ErrNone}, {o(0, 0, 1), o(0, 0, 2), nil, api.ErrNone}, {o(0, 0, 5), o(1, 1, 1), nil, api.ErrNone}, {o(0, 0, 1), beside(rat(-2, 1)), nil, api.ErrNone},
		{about(in(0, 0), rat(2, 1)), about(in(2, 0), rat(2, 1)), []spot{on(1, -1), on(1, 1)}, api.OK}, // the radii are no fractions, the points are
		{about(in(0, 0), rat(2, 1)), ringed(0, 1, -1, -4), []spot{on(1, 1)}, api.OK}, {about(in(0, 0), rat(2, 1)), about(in(2, 2), rat(2, 1)), []spot{on(1, 1)}, api.OK}, {about(in(0, 0), rat(8, 1)), about(in(1, 1), rat(2, 1)), []spot{on(2, 2)}, api.OK},
	} {
		for range 2 {
			wantPoints(t, x.k, x.l)
			got, e := meet.Points(x.k.circle(), x.l.circle())
			if !slices.Equal(got, pointsOf(x.want...)) || e != x.e {
				t.Errorf("the points of%s are%s, %v, want%s, %v", briefRings(x.k, x.l), briefs(got...), e, briefs(pointsOf(x.want...)...), x.e)
			}
			x.k, x.l = x.l, x.k
		}
	}
}

// through2 are two circles, or a circle and a line, through two points.
func through2(r *rand.Rand, p, q num, most int) (ring, ring) {
	mid, way := p.plus(q).scaled(rat(1, 2)), q.minus(p).turned()
	one := func() ring {
		centre := mid.plus(way.scaled(odd(r, most)))
		return about(centre, p.minus(centre).norm())
	}
	if r.Intn(3) == 0 {
		return along(p, q), one()
	}
	return one(), one()
}

func TestPointsThatAreKnown(t *testing.T) { // P13.2
	r := rand.New(rand.NewSource(1320))
	seen := tally{}
	for range 400 {
		p, q := oddNum(r, 4), oddNum(r, 4)
		if p.minus(q).zero() {
			continue
		}
		k, l := through2(r, p, q, 3)
		if !k.same(l) {
			seen[wantPoints(t, k, l)]++
			seen[wantPoints(t, l, k)]++
		}
	}
	for range 200 { // that touch: the one is about a point of the line from the other's centre to p
		p, centre := oddNum(r, 4), oddNum(r, 4)
		by := odd(r, 3)
		if p.minus(centre).zero() || by.Sign() == 0 || by.Cmp(rat(1, 1)) == 0 {
			continue
		}
		other := p.plus(centre.minus(p).scaled(by))
		k, l := about(centre, p.minus(centre).norm()), about(other, p.minus(other).norm())
		seen[wantPoints(t, k, l)]++
		tangent := along(p, p.plus(p.minus(centre).turned()))
		seen[wantPoints(t, tangent, l)]++
	}
	seen.least(t, 300, "one", "two")
}

func TestPointsAtTheBound(t *testing.T) { // P13.2
	most := ofInt(top())
	steep := func(c *big.Rat) ring { return ring{none(), num{rat(1, 1), rat(2, 1)}, c} } // Re z = 2 Im z - c / 2
	high := ring{none(), in(0, 1), most}                                                 // Im z is half of the greatest
	for _, x := range []struct {
		k, l ring
		want string
	}{
		{steep(none()), high, "two"}, {steep(rat(-2, 1)), high, "ErrBig"}, {steep(rat(2, 1)), high, "two"}, {steep(rat(-1, 1)), high, "ErrBig"},
		{steep(rat(-4, 1)), ring{none(), in(0, 1), opposite(most)}, "two"}, {steep(rat(2, 1)), ring{none(), in(0, 1), opposite(most)}, "ErrBig"},
		{ring{none(), num{rat(1, 1), rat(2, 3)}, none()}, high, "two"}, {ring{none(), num{rat(1, 1), rat(2, 7)}, rat(1, 3)}, high, "ErrBig"},
		{ups(), ring{none(), num{rat(1, 1), most}, most}, "two"}, {ups(), ring{none(), num{rat(1, 1), most}, under(top())}, "ErrBig"},
		{beside(times(rat(1, 2), most)), reals(), "two"}, {reals(), about(real(ofInt(less(root(), 1))), rat(1, 1)), "two"},
		// ErrNone and ErrRoot stand ahead of ErrBig.
		{fullLong(1), fullLong(2), "ErrRoot"}, {about(fullAt(3), rat(1, 1)), about(fullAt(3), rat(2, 1)), "ErrNone"},
	} {
		if got := wantPoints(t, x.k, x.l); got != x.want {
			t.Errorf("the points of%s: %s, want %s", briefRings(x.k, x.l), got, x.want)
		}
		if got := wantPoints(t, x.l, x.k); got != x.want {
			t.Errorf("the points of%s: %s, want %s", briefRings(x.l, x.k), got, x.want)
		}
	}
}

// fullLong is a circle that is as long as may be, and great.
func fullLong(seed int64) ring {
	k := fullRing(rand.New(rand.NewSource(seed)), api.MaxWhole)
	k.c = opposite(ofInt(top()))
	return k
}

// fullAt is a number about which a circle may be, and nearly as long as that.
func fullAt(seed int64) num { return fullNum(rand.New(rand.NewSource(seed)), 250) }

// The one point is known, the other one, on a line through it, grows longer.
func TestPointsThatGrow(t *testing.T) { // P13.2
	r := rand.New(rand.NewSource(1321))
	seen := tally{}
	for n := range 90 {
		p, way := fullNum(r, 60), fullNum(r, 180+n)
		k := about(in(1, 2), p.minus(in(1, 2)).norm())
		l := along(p, p.plus(way))
		if !k.fits() || !l.fits() {
			continue
		}
		seen[wantPoints(t, k, l)]++
	}
	seen.least(t, 10, "two", "ErrBig")
}

// disk stands on the real line at 2 / q: those of q and q + 1 touch, at a point
// whose parts are over q^2 + (q + 1)^2.
func disk(q *big.Int) ring {
	down := under(q)
	square := times(down, down)
	return about(num{plus(down, down), square}, times(square, square))
}

// A point at which two touch may be too long, too.
func TestPointsThatTouch(t *testing.T) { // P13.2
	for _, x := range []struct {
		q    *big.Int
		want string
	}{
		{big.NewInt(1), "one"}, {big.NewInt(7), "one"}, {new(big.Int).Rsh(root(), 1), "one"}, {less(root(), 2), "ErrBig"},
	} {
		k, l := disk(x.q), disk(new(big.Int).Add(x.q, big.NewInt(1)))
		if !k.fits() || !l.fits() {
			t.Fatalf("%s may not be", briefRings(k, l))
		}
		if got := wantPoints(t, k, l); got != x.want {
			t.Errorf("the points of%s: %s, want %s", briefRings(k, l), got, x.want)
		}
		if got := wantPoints(t, l, k); got != x.want {
			t.Errorf("the points of%s: %s, want %s", briefRings(l, k), got, x.want)
		}
	}
	r := rand.New(rand.NewSource(1322))
	for n := range 40 { // the unit circle, and its tangents by long angles
		w := num{full(r, 200+n), rat(1, 1)}
		p := w.over(w.conj())
		if got := wantPoints(t, unit(), along(p, p.plus(p.turned()))); got != "one" {
			t.Errorf("the point of a tangent: %s", got)
		}
	}
}

func TestPointsRefuse(t *testing.T) { // P13.2
	good := []api.Circle{unit().circle(), reals().circle(), longs()[0].circle(), {}}
	refused := func(c, d api.Circle) {
		t.Helper()
		if l, e := meet.Points(c, d); len(l) != 0 || e != api.ErrArg {
			t.Fatalf("the points of wrong circles:%s, %v", briefs(l...), e)
		}
	}
	for _, c := range wrongCircles() {
		refused(c, c)
		for _, d := range good {
			refused(c, d)
			refused(d, c)
		}
	}
}

func TestPointsAreNewMemory(t *testing.T) { // P13.2
	for _, x := range [][2]ring{{o(0, 0, 5), o(6, 0, 5)}, {ups(), reals()}, {o(0, 0, 1), o(2, 0, 1)}, {ups(), beside(rat(1, 1))}} {
		c, d := x[0].circle(), x[1].circle()
		first, _ := meet.Points(c, d)
		kept := slices.Clone(first)
		second, _ := meet.Points(c, d)
		for k := range first[:cap(first)] {
			first[:cap(first)][k] = api.Point{}
		}
		third, _ := meet.Points(c, d)
		if !slices.Equal(second, kept) || !slices.Equal(third, kept) {
			t.Errorf("the points of%s share memory", briefRings(x[0], x[1]))
		}
	}
}
