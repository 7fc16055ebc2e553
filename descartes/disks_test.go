package descartes_test

import (
	"math/big"
	"math/rand"
	"testing"

	"tracery/api"
	"tracery/descartes"
)

func TestCheck(t *testing.T) { // P20.1
	for _, l := range [][]ball{grains(), longs()} {
		for _, x := range l {
			wantError(t, "Check of a disk", descartes.Check(x.disk()), api.OK)
			wantError(t, "Check of a disk turned inside out", descartes.Check(x.out().disk()), api.OK)
		}
	}
	for n, d := range wrongDisks() {
		if e := descartes.Check(d); e != api.ErrArg {
			t.Errorf("Check of the wrong disk %d is %v", n, e)
		}
	}
}

// A number's last bit makes a disk such that it may not be.
func TestCheckLong(t *testing.T) { // P20.1
	for n, x := range longs() {
		for k, part := range []*big.Rat{x.bend, x.mid.re, x.mid.im, x.co} {
			next := new(big.Rat).SetFrac(more(part.Num(), 2), part.Denom())
			y := [4]ball{{next, x.mid, x.co}, {x.bend, num{next, x.mid.im}, x.co}, {x.bend, num{x.mid.re, next}, x.co}, {x.bend, x.mid, next}}[k]
			want := api.ErrArg
			if y.fits() && y.power().Cmp(rat(1, 1)) == 0 {
				want = api.OK // Co of a half plane may be any
			}
			if e := descartes.Check(y.disk()); e != want {
				t.Errorf("Check of the long disk %d with the other number %d is %v, want %v", n, k, e, want)
			}
		}
	}
}

func TestRound(t *testing.T) { // P20.1
	round := func(centre num, radius *big.Rat) {
		t.Helper()
		d, e := descartes.Round(centre.gauss(), fraction(radius))
		wantDisk(t, "Round", d, e, about(centre, radius))
	}
	for re := int64(-3); re <= 3; re++ {
		for radius := int64(1); radius <= 4; radius++ {
			round(parts(re, 2, re-1, 3), rat(radius, 3))
			round(parts(re, 2, re-1, 3), rat(-radius, 3))
		}
	}
	r := rand.New(rand.NewSource(2010))
	seen := tally{}
	for n := range 200 {
		centre, radius := oddNum(r, 1+n), some(r, 1+n)
		if n%2 == 0 { // about as long as a disk may be
			centre, radius = num{fullRat(r, 240+n/8), ofInt(full(r, 9))}, fullRat(r, 240+n/8)
		}
		seen.fit(about(centre, radius).fits())
		round(centre, radius)
	}
	seen.least(t, 20, "fits", "too big")
	for _, x := range longs() {
		if !x.straight() && x.centre().fits() {
			round(x.centre(), x.radius())
		}
	}
}

func TestRoundAtTheBound(t *testing.T) { // P20.1
	for _, x := range []struct {
		centre num
		radius *big.Rat
		want   api.Errno
	}{
		{flat(ofInt(root())), rat(1, 1), api.OK}, // Co is the greatest number that may be
		{flat(ofInt(root())), rat(-1, 1), api.OK},
		{flat(ofInt(more(root(), 1))), rat(1, 1), api.ErrBig},
		{num{none(), ofInt(more(root(), 1))}, rat(-1, 1), api.ErrBig},
		{num{ofInt(root()), rat(1, 1)}, rat(1, 1), api.ErrBig},
		{num{ofInt(root()), under(top())}, rat(1, 1), api.ErrBig},
		{in(0, 0), ofInt(top()), api.OK},
		{in(0, 0), under(top()), api.OK},
		{in(0, 0), opposite(under(top())), api.OK},
		{in(1, 0), under(top()), api.ErrBig}, // Co is top - 1 / top
		{in(1, 0), ofInt(top()), api.ErrBig},
		{in(2, 0), under(top()), api.ErrBig},
		{flat(ofInt(top())), ofInt(top()), api.OK}, // 1 / top, 1, 0
		{num{none(), ofInt(top())}, opposite(ofInt(top())), api.OK},
		{num{none(), under(top())}, under(top()), api.OK},
		{flat(ofInt(top())), rat(1, 1), api.ErrBig},
	} {
		d, e := descartes.Round(x.centre.gauss(), fraction(x.radius))
		wantError(t, "Round at the bound", e, x.want)
		wantDisk(t, "Round at the bound", d, e, about(x.centre, x.radius))
	}
}

func TestRoundRefuses(t *testing.T) { // P20.1
	long := flat(ofInt(top())).gauss()
	for _, x := range wrongFracs() {
		d, e := descartes.Round(long, x)
		wantNone(t, "Round of a wrong radius", d, e, api.ErrArg)
	}
	for _, z := range wrongNums() {
		for _, radius := range []api.Frac{over(1, 1), over(-2, 1), over(0, 1), {}} {
			d, e := descartes.Round(z, radius)
			wantNone(t, "Round of a wrong centre", d, e, api.ErrArg)
		}
	}
	for _, z := range []api.Gauss{in(0, 0).gauss(), in(1, -2).gauss(), long} {
		d, e := descartes.Round(z, over(0, 1))
		wantNone(t, "Round of the radius 0", d, e, api.ErrZero)
	}
}

// halved is the half plane by the words of P20.1, if the normal's norm is a
// square.
func halved(normal, p num) (ball, bool) {
	length, exact := rootOf(normal.norm())
	if !exact {
		return ball{}, false
	}
	return beyond(p, normal.neg().scaled(inverse(length))), true
}

func wantHalf(t *testing.T, normal, p num) (ball, bool) {
	t.Helper()
	d, e := descartes.Half(normal.gauss(), p.gauss())
	x, exact := halved(normal, p)
	if !exact {
		wantNone(t, "Half", d, e, api.ErrNone)
		return x, false
	}
	wantDisk(t, "Half", d, e, x)
	return x, true
}

func TestHalf(t *testing.T) { // P20.1
	seen := tally{}
	for re := int64(-5); re <= 5; re++ {
		for im := int64(-5); im <= 5; im++ {
			if re == 0 && im == 0 {
				continue
			}
			normal, p := parts(re, 3, im, 3), parts(1, 2, -2, 3)
			x, exact := wantHalf(t, normal, p)
			if !exact {
				seen["none"]++
				continue
			}
			seen["exact"]++
			for _, z := range []num{p, in(0, 0), in(3, -2), in(-2, 2), p.plus(normal), p.minus(normal), p.plus(normal.times(in(0, 5)))} {
				if x.side(at(z)) != normal.dot(z.minus(p)).Sign() {
					t.Fatal("the half plane is another one")
				}
			}
		}
	}
	seen.least(t, 20, "none", "exact")
	r := rand.New(rand.NewSource(2011))
	for n := range 100 {
		wantHalf(t, someNum(r, 1+n).pointing().scaled(some(r, 4)), oddNum(r, 5))
		wantHalf(t, someNum(r, 1+n), oddNum(r, 5))
	}
}

func TestHalfLong(t *testing.T) { // P20.1
	r := rand.New(rand.NewSource(2012))
	seen := tally{}
	for n := range 16 {
		unit, count := fullUnit(r, api.MaxWhole/2-1-n%2), api.MaxWhole
		for _, normal := range []num{
			unit, parts(3, 1, -4, 1).scaled(fullRat(r, count-1)), {ofInt(full(r, count)), none()}, {none(), opposite(fullRat(r, count))},
			num{ofInt(full(r, 500)), ofInt(full(r, 500))}.pointing().scaled(ofInt(full(r, 20))),
		} {
			for _, p := range []num{in(0, 0), flat(fullRat(r, 1)), {ofInt(full(r, count)), fullRat(r, count)}} {
				x, exact := wantHalf(t, normal, p)
				if !exact {
					t.Fatal("a normal's norm is no square")
				}
				seen.fit(x.fits())
			}
		}
		// One more in a part, and the norm is no square any more.
		for _, normal := range []num{{ofInt(full(r, count)), fullRat(r, count)}, {fullRat(r, count), fullRat(r, count)}, {plus(unit.re, under(unit.re.Denom())), unit.im}, {ofInt(top()), rat(1, 1)}} {
			if _, exact := wantHalf(t, normal, in(1, 1)); exact {
				t.Fatal("a normal's norm is a square")
			}
		}
	}
	seen.least(t, 20, "fits", "too big")
	// A normal that may be whose length may not.
	m, n := more(root(), -1), new(big.Int).Div(root(), big.NewInt(3))
	for n.Bit(0) == 1 || new(big.Int).GCD(nil, nil, m, n).BitLen() > 1 {
		n = more(n, 1)
	}
	normal := num{ofInt(m), ofInt(n)}
	normal = normal.times(normal)
	if x, exact := wantHalf(t, normal, in(0, 0)); !normal.fits() || !exact || x.fits() {
		t.Fatal("its length is to be too big")
	}
	for _, x := range []struct {
		at   num
		want api.Errno
	}{
		{num{ofInt(top()), rat(7, 1)}, api.ErrBig}, // Co is twice as far
		{num{ofInt(more(twos(8191), -1)), rat(7, 1)}, api.OK},
		{num{under(top()), ofInt(top())}, api.OK},
		{num{none(), ofInt(top())}, api.OK},
	} {
		_, e := descartes.Half(in(-2, 0).gauss(), x.at.gauss())
		wantError(t, "Half at the bound", e, x.want)
		wantHalf(t, in(-2, 0), x.at)
	}
}

func TestHalfRefuses(t *testing.T) { // P20.1
	for _, z := range wrongNums() {
		for _, other := range []num{in(1, 0), in(0, 0), in(1, 1)} {
			d, e := descartes.Half(z, other.gauss())
			wantNone(t, "Half of a wrong normal", d, e, api.ErrArg)
			d, e = descartes.Half(other.gauss(), z)
			wantNone(t, "Half at a wrong number", d, e, api.ErrArg)
		}
	}
	long := num{ofInt(top()), under(top())}
	for _, p := range []num{in(0, 0), in(1, 2), long} {
		d, e := descartes.Half(in(0, 0).gauss(), p.gauss())
		wantNone(t, "Half of the normal 0", d, e, api.ErrZero)
		d, e = descartes.Half(in(1, 1).gauss(), p.gauss())
		wantNone(t, "Half of 1 + i", d, e, api.ErrNone)
	}
}

// wantOf wants both sides of a circle.
func wantOf(t *testing.T, k ring) bool {
	t.Helper()
	size, exact := rootOf(k.power())
	for _, side := range []int{-1, 1} {
		d, e := descartes.Of(k.circle(), side)
		if !exact {
			wantNone(t, "Of", d, e, api.ErrNone)
			continue
		}
		x := ball{k.a, k.b.conj().neg(), k.c}.times(rat(int64(-side), 1)).times(inverse(size))
		wantDisk(t, "Of", d, e, x)
		for _, p := range []spot{far(), on(0, 0), on(3, 1), on(-2, 2), at(parts(1, 3, -2, 5))} {
			if got, _ := descartes.Side(d, p.point()); e == api.OK && got != -side*k.side(p) {
				t.Fatalf("a point to the side %d of a circle is to the side %d of the disk on its side %d", k.side(p), got, side)
			}
		}
	}
	return exact
}

func TestOf(t *testing.T) { // P20.1
	seen := tally{}
	see := func(k ring) {
		if wantOf(t, k) {
			seen["exact"]++
		} else {
			seen["none"]++
		}
	}
	for re := int64(-2); re <= 2; re++ {
		for im := int64(-2); im <= 2; im++ {
			for c := int64(-9); c < re*re+im*im; c++ {
				see(ringed(1, re, im, c))
			}
			see(ringed(0, 1, re, im))
			see(ring{none(), num{rat(1, 1), rat(4*re+im, 3)}, rat(im, 7)})
			see(ringed(0, 0, 1, re+im))
		}
	}
	r := rand.New(rand.NewSource(2013))
	for n := range 100 {
		if x := oddBall(r, 1+n%40); x.edge().fits() {
			see(x.edge())
		}
		if k := (ring{rat(1, 1), oddNum(r, 5), opposite(square(some(r, 5)))}); k.power().Sign() > 0 {
			see(k)
		}
	}
	seen.least(t, 100, "exact", "none")
	for _, x := range longs() {
		if k := x.edge(); k.fits() && !wantOf(t, k) {
			t.Fatal("a disk's edge has no square as its power")
		}
	}
}

func TestOfAtTheBound(t *testing.T) { // P20.1
	most := ofInt(more(top(), -1)) // 5 does not divide it
	steep := num{rat(1, 1), rat(3, 4)}
	for _, x := range []struct {
		k    ring
		want api.Errno
	}{
		{ring{none(), steep, most}, api.ErrBig}, // times 4/5
		{ring{none(), steep, opposite(ofInt(more(twos(8189), 0)))}, api.OK},
		{ring{none(), steep, ofInt(top())}, api.OK}, // 5 divides it
		{ring{none(), in(1, 0), most}, api.OK},
		{ring{none(), in(0, 1), opposite(under(top()))}, api.OK},
		{ring{rat(1, 1), in(0, 0), opposite(square(ofInt(more(root(), -1))))}, api.OK},
		{ring{rat(1, 1), in(0, 0), opposite(inverse(square(ofInt(more(root(), -1)))))}, api.OK},
		{ring{rat(1, 1), flat(ofInt(root())), ofInt(top())}, api.OK},
		{ring{rat(1, 1), in(0, 0), opposite(ofInt(top()))}, api.ErrNone},
		{ring{none(), num{rat(1, 1), ofInt(top())}, none()}, api.ErrNone},
		{ring{none(), num{rat(1, 1), under(top())}, ofInt(top())}, api.ErrNone},
	} {
		_, e := descartes.Of(x.k.circle(), 1)
		wantError(t, "Of at the bound", e, x.want)
		wantOf(t, x.k)
	}
}

func TestOfRefuses(t *testing.T) { // P20.1
	for _, k := range wrongCircles() {
		for _, side := range []int{-1, 1, 0, 7} {
			d, e := descartes.Of(k, side)
			wantNone(t, "Of a wrong circle", d, e, api.ErrArg)
		}
	}
	for _, side := range wrongSides() {
		for _, k := range []ring{ringed(1, 0, 0, -1), ringed(1, 0, 0, -2), ringed(0, 1, 0, 3), ringed(0, 1, 1, 0)} {
			d, e := descartes.Of(k.circle(), side)
			wantNone(t, "Of a wrong side", d, e, api.ErrArg)
		}
	}
}

func wantEdge(t *testing.T, x ball) {
	t.Helper()
	k, e := descartes.Edge(x.disk())
	if !x.edge().fits() {
		wantNone(t, "Edge", k, e, api.ErrBig)
		return
	}
	want(t, "Edge", k, e, x.edge().circle())
	side := -1 // of a line that may be the other one
	if x.bend.Sign() < 0 || x.straight() && (x.mid.re.Sign() > 0 || x.mid.re.Sign() == 0 && x.mid.im.Sign() < 0) {
		side = 1
	}
	d, e := descartes.Of(k, side)
	want(t, "Of an Edge", d, e, x.disk())
}

func TestEdge(t *testing.T) { // P20.1
	for _, x := range grains() {
		wantEdge(t, x)
		wantEdge(t, x.out())
	}
	r := rand.New(rand.NewSource(2014))
	for n := range 100 {
		wantEdge(t, oddBall(r, 1+n))
	}
	seen := tally{}
	for _, x := range longs() {
		wantEdge(t, x)
		wantEdge(t, x.out())
		seen.fit(x.edge().fits())
	}
	seen.least(t, 3, "fits", "too big")
	for _, x := range []struct {
		x    ball
		want ring
	}{
		{o(), ringed(1, 0, 0, -1)}, {a(), ringed(1, 0, 0, 0).plus(-1, 2)}, {a().out(), ringed(1, 0, 0, 0).plus(-1, 2)},
		{balled(0, 0, -1, 0), ringed(0, 0, 1, 0)}, {balled(0, 1, 0, 4), ringed(0, 1, 0, -4)}, {balled(0, -1, 0, 4), ringed(0, 1, 0, 4)},
		{ball{none(), parts(3, 5, -4, 5), rat(2, 1)}, ring{none(), parts(1, 1, 4, 3), rat(-10, 3)}},
	} {
		k, e := descartes.Edge(x.x.disk())
		want(t, "Edge", k, e, x.want.circle())
	}
	for _, d := range wrongDisks() {
		k, e := descartes.Edge(d)
		wantNone(t, "Edge of a wrong disk", k, e, api.ErrArg)
	}
}

// plus is the ring with another B's real part.
func (k ring) plus(num, den int64) ring {
	k.b.re = rat(num, den)
	return k
}

func TestOut(t *testing.T) { // P20.1
	r := rand.New(rand.NewSource(2015))
	l := append(grains(), longs()...)
	for n := range 50 {
		l = append(l, oddBall(r, 1+n))
	}
	for _, x := range l {
		d, e := descartes.Out(x.disk())
		wantDisk(t, "Out", d, e, x.out())
		d, e = descartes.Out(d)
		want(t, "Out of Out", d, e, x.disk())
	}
	for _, d := range wrongDisks() {
		d, e := descartes.Out(d)
		wantNone(t, "Out of a wrong disk", d, e, api.ErrArg)
	}
}

func TestDiskExamples(t *testing.T) { // P20.1
	d, e := descartes.Round(in(1, 0).gauss(), over(2, 1))
	want(t, "Round(1, 2)", d, e, ball{rat(1, 2), parts(1, 2, 0, 1), rat(-3, 2)}.disk())
	d, e = descartes.Round(in(0, 0).gauss(), over(0, 1))
	wantNone(t, "Round(0, 0)", d, e, api.ErrZero)
	d, e = descartes.Half(in(0, 2).gauss(), in(0, 0).gauss())
	want(t, "Half(2i, 0)", d, e, balled(0, 0, -1, 0).disk())
	d, e = descartes.Half(in(1, 1).gauss(), in(0, 0).gauss())
	wantNone(t, "Half(1 + i, 0)", d, e, api.ErrNone)
	for n, x := range knot() {
		want(t, "a bend", x.disk().Bend, api.OK, []api.Frac{over(-1, 1), over(2, 1), over(2, 1), over(3, 1)}[n])
	}
}
