package sphere_test

import (
	"math/big"
	"math/rand"
	"testing"

	"tracery/api"
	"tracery/sphere"
)

func wantChord(t *testing.T, z, w spot) {
	t.Helper()
	got, e := sphere.Chord(z.point(), w.point())
	wanted := z.chord(w)
	switch {
	case fits(wanted) && (got != fraction(wanted) || e != api.OK):
		t.Fatalf("the chord of %s and %s is %s, %v, want %.100s", brief(z.point()), brief(w.point()), briefFrac(got), e, wanted.String())
	case !fits(wanted) && (got != (api.Frac{}) || e != api.ErrBig):
		t.Fatalf("the chord of %s and %s, too long: %s, %v", brief(z.point()), brief(w.point()), briefFrac(got), e)
	}
}

func TestChord(t *testing.T) { // P7.4
	twoes(func(z, w spot) {
		wantChord(t, z, w)
		wantChord(t, z, z)
	})
}

func TestChordExamples(t *testing.T) { // P7.4
	for _, x := range []struct {
		z, w spot
		want api.Frac
	}{
		{short(0, 0), far(), over(4, 1)}, {short(1, 0), short(0, 1), over(2, 1)}, {short(1, 0), short(-1, 0), over(4, 1)},
		{far(), far(), over(0, 1)}, {short(0, 0), short(0, 0), over(0, 1)}, {short(0, 0), short(1, 0), over(2, 1)}, {far(), short(2, 0), over(4, 5)},
	} {
		if got, e := sphere.Chord(x.z.point(), x.w.point()); got != x.want || e != api.OK {
			t.Errorf("the chord of %s and %s is %s, %v", brief(x.z.point()), brief(x.w.point()), briefFrac(got), e)
		}
	}
}

// lengthy are pairs of long points whose chord is short: what is reckoned on
// the way is far longer than a fraction may be.
func lengthy() [][2]spot {
	r := rand.New(rand.NewSource(74))
	a := at(new(big.Rat).SetFrac(bytes(r, 1024), bytes(r, 1000)), new(big.Rat).SetFrac(bytes(r, 900), bytes(r, 1024)))
	n := at(ofInt(bytes(r, 1024)), new(big.Rat))
	m := at(new(big.Rat), new(big.Rat).SetFrac(bytes(r, 1024), bytes(r, 1024)))
	l := [][2]spot{{a, a}, {n, n.across()}, {m, m.across()}, {a.neg(), a.neg()}}
	for _, z := range brink(r)[:4] {
		l = append(l, [2]spot{z, z.across()})
	}
	return l
}

func TestChordLongOnTheWay(t *testing.T) { // P7.4
	for _, l := range lengthy() {
		got, e := sphere.Chord(l[0].point(), l[1].point())
		wanted := over(4, 1)
		if l[0].chord(l[1]).Sign() == 0 {
			wanted = over(0, 1)
		}
		if got != wanted || e != api.OK {
			t.Errorf("the chord of %s and %s is %s, %v", brief(l[0].point()), brief(l[1].point()), briefFrac(got), e)
		}
	}
}

func TestChordAtTheBound(t *testing.T) { // P7.4
	// From a whole number to infinity the chord is 4 over its square and 1.
	for _, x := range []struct {
		n    *big.Int
		want api.Errno
	}{
		{new(big.Int).Sub(twos(4096), big.NewInt(2)), api.OK}, {new(big.Int).Sub(twos(4096), big.NewInt(1)), api.OK},
		{twos(4096), api.ErrBig}, {new(big.Int).Add(twos(4096), big.NewInt(1)), api.OK}, // over 2, as its square is odd
		{new(big.Int).Add(twos(4096), twos(4095)), api.ErrBig},
	} {
		z := at(ofInt(x.n), new(big.Rat))
		wantChord(t, z, far())
		if _, e := sphere.Chord(far().point(), z.point()); e != x.want {
			t.Errorf("a chord at the bound: %v, want %v", e, x.want)
		}
	}
}

func TestChordRefusesWrongOnes(t *testing.T) { // P7.4
	for _, p := range wrong() {
		for _, z := range good() {
			for _, l := range [][2]api.Point{{p, z.point()}, {z.point(), p}, {p, p}} {
				if got, e := sphere.Chord(l[0], l[1]); got != (api.Frac{}) || e != api.ErrArg {
					t.Fatalf("a chord of a wrong one: %s, %v", briefFrac(got), e)
				}
			}
		}
	}
}

func wantNearest(t *testing.T, p spot, l []spot) {
	t.Helper()
	wanted := 0
	for k, q := range l {
		if p.chord(q).Cmp(p.chord(l[wanted])) < 0 {
			wanted = k
		}
	}
	got, e := sphere.Nearest(p.point(), pointsOf(l)...)
	if got != wanted || e != api.OK {
		t.Fatalf("the nearest of %d to %s is %d, %v, want %d", len(l), brief(p.point()), got, e, wanted)
	}
}

func TestNearest(t *testing.T) { // P7.4
	three, back, one := short(3, 0), short(-1, 0), short(1, 0)
	if n, e := sphere.Nearest(short(0, 0).point(), pointsOf([]spot{three, back, one})...); n != 1 || e != api.OK {
		t.Errorf("the nearest of 3, -1, 1 to 0: %d, %v", n, e)
	}
	// On the ball 9 is nearer to infinity than to 1, and -1/2 to 0 than to 5.
	if n, e := sphere.Nearest(short(9, 0).point(), one.point(), far().point()); n != 1 || e != api.OK {
		t.Errorf("the nearest of 1, infinity to 9: %d, %v", n, e)
	}
	r := rand.New(rand.NewSource(75))
	for _, p := range grid() {
		wantNearest(t, p, []spot{p.across()})
		wantNearest(t, p, []spot{far(), p, short(0, 0), p})
		for range 40 {
			var l []spot
			for range 1 + r.Intn(8) {
				l = append(l, grid()[r.Intn(len(grid()))])
			}
			wantNearest(t, p, l)
			wantNearest(t, odd(r, 6), append(l, odd(r, 6), odd(r, 9)))
			// Several as near: the same ones, and ones on the other side.
			wantNearest(t, far(), append(l, l[0].neg(), l[0].conj(), l[0]))
			wantNearest(t, short(0, 0), append(l, l[0].neg(), l[0].conj(), l[0]))
		}
	}
	for _, p := range good() {
		wantNearest(t, p, good())
		wantNearest(t, p, good()[1:])
	}
}

func TestNearestWithLongChords(t *testing.T) { // P7.4
	r := rand.New(rand.NewSource(76))
	wild := func() spot {
		return at(new(big.Rat).SetFrac(bytes(r, 1024), bytes(r, 1024)), new(big.Rat).SetFrac(bytes(r, 1024), bytes(r, 1024)))
	}
	for range 4 {
		p, l := wild(), []spot{wild(), wild(), wild(), wild()}
		if _, e := sphere.Chord(p.point(), l[0].point()); e != api.ErrBig {
			t.Fatalf("the chord is not too long: %v", e)
		}
		wantNearest(t, p, l)
	}
	// Next to each other: the last digits tell.
	p := at(ofInt(bigOf(top())), new(big.Rat))
	near := at(ofInt(bigOf(more(top(), -1))), new(big.Rat))
	nearer := at(ofInt(bigOf(more(top(), -1))), quo(big.NewRat(1, 1), ofInt(bigOf(top()))))
	wantNearest(t, p, []spot{nearer, near, nearer})
	wantNearest(t, p.neg(), []spot{p.neg().conj(), p})
	wantNearest(t, far(), []spot{near, p, p.neg()})
}

func TestNearestRefuses(t *testing.T) { // P7.4
	one := short(1, 0).point()
	n, e := sphere.Nearest(one)
	wantPlaces(t, "the nearest of none", n, 0, e, 0, 0, api.ErrNone)
	n, e = sphere.Nearest(one, []api.Point{}...)
	wantPlaces(t, "the nearest of an empty list", n, 0, e, 0, 0, api.ErrNone)
	l := many(api.MaxList + 1)
	for _, p := range wrong() {
		n, e = sphere.Nearest(p)
		wantPlaces(t, "the nearest of none to a wrong one", n, 0, e, 0, 0, api.ErrArg)
		n, e = sphere.Nearest(p, one)
		wantPlaces(t, "the nearest to a wrong one", n, 0, e, 0, 0, api.ErrArg)
		n, e = sphere.Nearest(p, p)
		wantPlaces(t, "the nearest to a wrong one, itself", n, 0, e, 0, 0, api.ErrArg)
		n, e = sphere.Nearest(one, one, p)
		wantPlaces(t, "a wrong one behind the point itself", n, 0, e, 0, 0, api.ErrArg)
	}
	n, e = sphere.Nearest(api.Point{}, l...)
	wantPlaces(t, "the nearest of too many to a wrong one", n, 0, e, 0, 0, api.ErrArg)
	n, e = sphere.Nearest(l[0], l...)
	wantPlaces(t, "the nearest of too many", n, 0, e, 0, 0, api.ErrLong)
}
