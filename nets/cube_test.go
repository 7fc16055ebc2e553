package nets_test

import (
	"math/big"
	"math/rand"
	"testing"

	"tracery/api"
	"tracery/nets"
)

// block is a cube by math/big.
type block struct {
	p, p1, p2, p3 spot
	a, b, c       num
}

func (k block) cube() api.Cube {
	return api.Cube{P: k.p.point(), P1: k.p1.point(), P2: k.p2.point(), P3: k.p3.point(), A: k.a.gauss(), B: k.b.gauss(), C: k.c.gauss()}
}

func (k block) labels() bool {
	return !k.a.zero() && !k.b.zero() && !k.c.zero() && !k.a.minus(k.b).zero() && !k.b.minus(k.c).zero() && !k.c.minus(k.a).zero()
}

func (k block) fits() bool {
	return k.p.fits() && k.p1.fits() && k.p2.fits() && k.p3.fits() && k.a.fits() && k.b.fits() && k.c.fits()
}

func (k block) image(m chart) block {
	k.p, k.p1, k.p2, k.p3 = m.at(k.p), m.at(k.p1), m.at(k.p2), m.at(k.p3)
	return k
}

// faces goes by the chapter's words, to the end of what squares there are: how
// many last corners there are, and whether one of the squares on the way to
// them all has two corners that are the same.
func (k block) faces() (l [3]spot, mids [3]spot, step int) {
	ab, ac, bc := k.a.over(k.b), k.a.over(k.c), k.b.over(k.c)
	var p12, p13, p23 spot
	for n, x := range []struct {
		p, q, s *spot
		ratio   num
		out     *spot
	}{
		{&k.p, &k.p1, &k.p2, ab, &p12}, {&k.p, &k.p1, &k.p3, ac, &p13}, {&k.p, &k.p2, &k.p3, bc, &p23},
		{&k.p1, &p12, &p13, bc, &l[0]}, {&k.p2, &p12, &p23, ac, &l[1]}, {&k.p3, &p13, &p23, ab, &l[2]},
	} {
		if !unlike(*x.p, *x.q, *x.s) {
			return l, [3]spot{p12, p13, p23}, n
		}
		*x.out = corner(*x.p, *x.q, *x.s, x.ratio)
	}
	return l, [3]spot{p12, p13, p23}, 6
}

func wantCube(t *testing.T, seen tally, k block) {
	t.Helper()
	if !k.fits() || !k.labels() {
		return
	}
	last, e := nets.Last(k.cube())
	faces, f := nets.Faces(k.cube())
	l, mids, step := k.faces()
	if step < 6 {
		seen[[]string{"twins of p12", "twins of p13", "twins of p23", "twins of a face", "twins of a face", "twins of a face"}[step]]++
		if step < 4 {
			wantNone(t, "Last of twins", last, e, api.ErrNet)
		}
		wantNone(t, "Faces of twins", faces, f, api.ErrNet)
		return
	}
	if !l[0].same(l[1]) || !l[1].same(l[2]) {
		t.Fatal("the faces tell unlike corners")
	}
	if !l[0].fits() {
		seen["too big"]++
		wantNone(t, "Last that is too big", last, e, api.ErrBig)
		wantNone(t, "Faces that are too big", faces, f, api.ErrBig)
		return
	}
	seen["told"]++
	want(t, "Last", last, e, l[0].point())
	want(t, "Faces", faces, f, [3]api.Point{l[0].point(), l[1].point(), l[2].point()})
	if l[0].inf {
		seen["infinity"]++
	}
	for _, p := range mids {
		if p.inf {
			seen["infinity by the way"]++
		}
		if !p.fits() {
			seen["longer by the way"]++
		}
	}
	if k.p.inf || k.p1.inf || k.p2.inf || k.p3.inf {
		seen["of infinity"]++
	}
}

func TestCubes(t *testing.T) { // P27.5, P27.6
	seen := tally{}
	r := rand.New(rand.NewSource(2750))
	next, label := pooled(r), smallLabel(r)
	for n := range 3000 {
		k := block{next(), next(), next(), next(), label(), label(), label()}
		wantCube(t, seen, k)
		if n%10 > 0 || !k.labels() {
			continue
		}
		if l, mids, step := k.faces(); step == 6 { // brought to where one of them is infinity
			for _, p := range []spot{l[0], mids[0], mids[1], mids[2]} {
				if !p.inf {
					wantCube(t, seen, k.image(chart{a: in(0, 0), b: in(1, 0), c: in(1, 0), d: p.z.neg()}))
				}
			}
		}
	}
	for n := range 100 {
		most := 1 + n/10
		wantCube(t, seen, block{oddSpot(r, most), oddSpot(r, most), oddSpot(r, most), oddSpot(r, most), oddNum(r, most), oddNum(r, most), oddNum(r, most)})
	}
	seen.least(t, 20, "told", "twins of p12", "twins of p13", "twins of p23", "infinity", "infinity by the way", "of infinity")
}

// pinched are cubes with p12, p13 and p23 all the same, though no two of p, p1,
// p2, p3 are. With infinity as p: p12 is (a p1 - b p2) / (a - b).
func pinched(a, b, c, p1, p2 num) block {
	p12 := a.times(p1).minus(b.times(p2)).over(a.minus(b))
	p3 := a.times(p1).minus(a.minus(c).times(p12)).over(c)
	return block{far(), at(p1), at(p2), at(p3), a, b, c}
}

func TestPinchedCubes(t *testing.T) { // P27.5
	seen := tally{}
	r := rand.New(rand.NewSource(2751))
	for n := range 40 {
		most := 1 + n%5
		a, b, c, p1, p2 := oddNum(r, most), oddNum(r, most), oddNum(r, most), oddNum(r, most), oddNum(r, most)
		if k := (block{a: a, b: b, c: c}); !k.labels() || p1.minus(p2).zero() {
			continue
		}
		k := pinched(a, b, c, p1, p2)
		wantCube(t, seen, k)
		for _, m := range charts()[:9] {
			wantCube(t, seen, k.image(m))
		}
		great := stretch(along(ofInt(full(r, 900)))) // what would come of it would be too big
		wantCube(t, seen, k.image(great))
	}
	seen.least(t, 200, "twins of a face")
}

// P27.5: ErrArg ahead of points that are the same; ErrNet ahead of ErrBig.
func TestCubeRefuses(t *testing.T) {
	base := block{on(0, 0), on(1, 0), on(0, 1), on(-1, 0), in(1, 0), in(-1, 0), in(2, 0)}
	twin := base
	twin.p1 = twin.p
	all := base
	all.p1, all.p2, all.p3 = all.p, all.p, all.p
	refused := func(c api.Cube, wanted api.Errno) {
		t.Helper()
		p, e := nets.Last(c)
		wantNone(t, "Last", p, e, wanted)
		l, e := nets.Faces(c)
		wantNone(t, "Faces", l, e, wanted)
	}
	for _, k := range []block{base, twin, all} {
		for _, z := range append(wrongNumbers(), in(0, 0).gauss()) {
			for n := range 3 {
				c := k.cube()
				*[]*api.Gauss{&c.A, &c.B, &c.C}[n] = z
				refused(c, api.ErrArg)
			}
		}
		for _, p := range wrongPoints() {
			for n := range 4 {
				c := k.cube()
				*[]*api.Point{&c.P, &c.P1, &c.P2, &c.P3}[n] = p
				refused(c, api.ErrArg)
				c.A = c.B
				refused(c, api.ErrArg)
			}
		}
		a, b, c, d := k.cube(), k.cube(), k.cube(), k.cube()
		a.B, b.C, c.A, d.B, d.C = a.A, b.B, c.C, d.A, d.A
		for _, x := range []api.Cube{a, b, c, d, {}} {
			refused(x, api.ErrArg)
		}
	}
	great := base.image(stretch(along(ofInt(top()))))
	for _, k := range []block{base, great, base.image(charted(0, 1, 1, 0))} {
		l := []*spot{&k.p, &k.p1, &k.p2, &k.p3}
		for n := range l {
			for m := range n {
				kept := *l[n]
				*l[n] = *l[m]
				refused(k.cube(), api.ErrNet)
				*l[n] = kept
			}
		}
	}
}

// P27.5: both sides of the bound, and corners by the way that are longer than
// the last one. With infinity, 0, t x, t y the last one is
// t (b - c) x y / ((a - c) x - (a - b) y).
func TestCubeAtTheBound(t *testing.T) {
	seen := tally{}
	third := new(big.Int).Quo(top(), big.NewInt(3))
	for _, x := range []*big.Rat{ofInt(third), ofInt(more(third, 1)), ofInt(twos(8189)), ofInt(more(twos(8190), 1)), under(third), under(more(third, 1)), under(top()), ratio(third, more(third, 1)), ratio(more(third, 2), third)} {
		for _, by := range []num{in(1, 0), in(0, 1), in(-1, 2)} {
			z := by.scaled(x)
			for _, k := range []block{
				{far(), on(0, 0), at(z), at(z.scaled(rat(3, 1))), in(257, 0), in(256, 0), in(255, 0)}, // -3 z
				{far(), on(0, 0), at(z), at(z.scaled(rat(-1, 1))), in(1, 0), in(-1, 0), in(2, 0)},
				{far(), on(0, 0), at(z), at(z.scaled(rat(1, 3))), in(5, 0), in(4, 0), in(3, 0)},
				{on(0, 0), at(z), at(z.times(in(0, 1))), far(), in(1, 0), in(-1, 0), in(0, 2)},
			} {
				wantCube(t, seen, k)
				wantCube(t, seen, k.image(still().turned()))
				wantCube(t, seen, k.image(charted(0, 1, 1, 0)))
			}
		}
	}
	seen.least(t, 20, "told", "too big", "longer by the way")
}

// P27.5: labels whose ratios are too long to be told.
func TestCubeByLongLabels(t *testing.T) {
	seen := tally{}
	r := rand.New(rand.NewSource(2752))
	for range 2 {
		by := longNum(r, 1000)
		k := block{on(0, 0), on(1, 0), on(0, 1), on(-1, 0), by, by.neg(), by.scaled(rat(2, 1))}
		wantCube(t, seen, k) // the ratios are short
		wantCube(t, seen, k.image(slide(longNum(r, 300))))
		k.c = k.b.plus(in(1, 0))
		wantCube(t, seen, k)
	}
	seen.least(t, 4, "told")
	seen.least(t, 2, "too big")
	// The ratio a / b is too long to be told; what is answered is -1.
	a := twos(8191)
	long := block{far(), on(0, 0), on(1, 0), at(along(ratio(more(a, -1), a))), along(ofInt(a)), parts(1, 2, 0, 1), in(1, 0)}
	p, e := nets.Last(long.cube())
	want(t, "Last by a long ratio", p, e, on(-1, 0).point())
	wantCube(t, seen, long)
	long.p2, long.p3, long.b, long.c = long.p3, long.p2, long.c, long.b
	wantCube(t, seen, long)
	seen.least(t, 6, "told")
}
