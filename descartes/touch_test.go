package descartes_test

import (
	"math/big"
	"math/rand"
	"slices"
	"testing"

	"tracery/api"
	"tracery/descartes"
)

// onEdge answers points of the edge of a disk.
func onEdge(x ball) []spot {
	var l []spot
	for _, u := range []num{in(1, 0), in(-1, 0), in(0, 1), parts(3, 5, -4, 5), parts(-5, 13, 12, 13)} {
		if x.straight() {
			foot := x.mid.scaled(times(rat(1, 2), x.co))
			l = append(l, at(foot.plus(x.mid.times(num{none(), times(u.re, rat(7, 3))}))), far())
			continue
		}
		l = append(l, at(x.centre().plus(u.scaled(x.radius()))))
	}
	return l
}

func wantSide(t *testing.T, x ball, p spot) {
	t.Helper()
	n, e := descartes.Side(x.disk(), p.point())
	want(t, "Side", n, e, x.side(p))
	n, e = descartes.Side(x.out().disk(), p.point())
	want(t, "Side of what is turned inside out", n, e, -x.side(p))
}

func TestSide(t *testing.T) { // P20.2
	seen := tally{}
	r := rand.New(rand.NewSource(2020))
	see := func(x ball, l ...spot) {
		t.Helper()
		for _, p := range l {
			if p.fits() {
				seen[[]string{"inside", "on the edge", "outside"}[1+x.side(p)]]++
				wantSide(t, x, p)
			}
		}
	}
	for _, x := range grains() {
		see(x, far(), on(0, 0), on(1, 0), on(-2, 1), at(parts(1, 2, 2, 3)))
		see(x, onEdge(x)...)
	}
	for n := range 100 {
		x := oddBall(r, 1+n/4)
		see(x, far(), on(0, 0), at(oddNum(r, 1+n/4)))
		see(x, onEdge(x)...)
	}
	long := num{fullRat(r, api.MaxWhole), fullRat(r, api.MaxWhole)}
	for _, x := range longs() {
		see(x, far(), on(0, 0), at(long), at(flat(ofInt(top()))), at(num{rat(1, 1), under(top())}))
		see(x, onEdge(x)...)
	}
	seen.least(t, 200, "inside", "on the edge", "outside")
}

func TestSideExamples(t *testing.T) { // P20.2
	half := balled(0, 0, -1, 0) // what is not above the real line
	for _, x := range []struct {
		x    ball
		p    spot
		want int
	}{
		{a(), at(parts(1, 2, 0, 1)), -1}, {o(), far(), -1}, {a(), far(), 1}, {half, far(), 0}, {half.out(), far(), 0},
		{o(), on(0, 0), 1}, {o(), on(0, 1), 0}, {o(), on(2, 0), -1}, {a(), on(1, 0), 0}, {a(), on(0, 0), 0}, {a(), on(0, 1), 1},
		{half, on(5, 1), 1}, {half, on(5, 0), 0}, {half, on(5, -1), -1}, {half.out(), on(5, 1), -1},
	} {
		n, e := descartes.Side(x.x.disk(), x.p.point())
		want(t, "Side", n, e, x.want)
		wantSide(t, x.x, x.p)
	}
	for _, d := range wrongDisks() {
		n, e := descartes.Side(d, far().point())
		wantNone(t, "Side of a wrong disk", n, e, api.ErrArg)
	}
	for _, p := range wrongPoints() {
		n, e := descartes.Side(o().disk(), p)
		wantNone(t, "Side of a wrong point", n, e, api.ErrArg)
	}
}

// wantTwo wants what the chapter says of two disks.
func wantTwo(t *testing.T, x, y ball) {
	t.Helper()
	c, d, product := x.disk(), y.disk(), x.lying(y)
	if product.Cmp(x.product(y)) != 0 {
		t.Fatal("the product is not what centres and radii say")
	}
	got, e := descartes.Product(c, d)
	if upTo(product) {
		want(t, "Product", got, e, fraction(product))
	} else {
		wantNone(t, "Product", got, e, api.ErrBig)
	}
	ok, e := descartes.Touch(c, d)
	want(t, "Touch", ok, e, x.touches(y))
	ok, e = descartes.Apart(c, d)
	want(t, "Apart", ok, e, x.apart(y))
	p, e := descartes.Kiss(c, d)
	switch {
	case !x.touches(y):
		wantNone(t, "Kiss", p, e, api.ErrTouch)
	case !x.kiss(y).fits():
		wantNone(t, "Kiss", p, e, api.ErrBig)
	default:
		want(t, "Kiss", p, e, x.kiss(y).point())
		if q := x.kiss(y); x.side(q) != 0 || y.side(q) != 0 {
			t.Fatal("the point is not on both edges")
		}
	}
}

func TestTwo(t *testing.T) { // P20.2, P20.7
	seen := tally{}
	pairs(func(x, y ball) {
		wantTwo(t, x, y)
		seen.fit(upTo(x.product(y)))
		apart, touch := x.apart(y), x.touches(y)
		seen.when("apart", apart)
		seen.when("not apart", !apart)
		seen.when("touch", touch)
		seen.when("touch from the other side", touch && !apart)
		seen.when("inside out", x.same(y.out()))
		seen.when("half planes side by side", touch && x.straight() && y.straight())
		seen.when("disk and half plane", touch && x.straight() != y.straight())
	})
	seen.least(t, 50, "fits", "too big", "apart", "not apart", "touch", "touch from the other side", "inside out", "half planes side by side", "disk and half plane")
}

func TestTwoExamples(t *testing.T) { // P20.2, P20.7
	half := balled(0, 0, -1, 0)
	disk := func(re, im, radius int64) ball { return about(in(re, im), rat(radius, 1)) }
	for _, x := range []struct {
		x, y         ball
		product      api.Frac
		touch, apart bool
	}{
		{a(), b(), over(1, 1), true, true},
		{o(), a(), over(1, 1), true, true},
		{o().out(), a(), over(-1, 1), false, false}, // touches from within
		{o().out(), a().out(), over(1, 1), true, false},
		{a(), a(), over(-1, 1), false, false},
		{a(), a().out(), over(1, 1), false, true},
		{half, half.out(), over(1, 1), false, true},
		{half, half, over(-1, 1), false, false},
		{half, balled(0, 0, 1, 4), over(1, 1), true, true},
		{half, balled(0, 0, 1, -4), over(1, 1), true, false},
		{half, balled(0, 0, -1, 4), over(-1, 1), false, false},
		{half, balled(0, 1, 0, 4), over(0, 1), false, false},
		{half, disk(3, 1, 1), over(1, 1), true, true},
		{half, disk(3, 2, 1), over(2, 1), false, true},
		{half, disk(3, 0, 1), over(0, 1), false, false},
		{half, disk(3, -1, 1), over(-1, 1), false, false},
		{half, disk(3, -5, 1), over(-5, 1), false, false},
		{half, disk(3, -1, -1), over(1, 1), true, false}, // both hold what is far below
		{half, disk(3, 5, -1), over(-5, 1), false, false},
		{disk(0, 0, 1), disk(0, 0, -2), over(5, 4), false, true}, // one within the other
		{disk(0, 0, 2), disk(0, 0, -1), over(5, 4), false, false},
		{disk(0, 0, 2), disk(0, 0, 1), over(-5, 4), false, false},
		{disk(0, 0, 2), disk(1, 0, 1), over(-1, 1), false, false},
		{disk(0, 0, -2), disk(1, 0, 1), over(1, 1), true, true},
		{disk(0, 0, -2), disk(1, 0, -1), over(-1, 1), false, false},
		{disk(0, 0, 2), disk(1, 0, -1), over(1, 1), true, false},
		{disk(0, 0, -1), disk(5, 0, -1), over(23, 2), false, false}, // both hold infinity
		{disk(0, 0, 1), disk(2, 0, 1), over(1, 1), true, true},
		{disk(0, 0, 1), disk(1, 0, 1), over(-1, 2), false, false},
		{disk(0, 0, 1), disk(9, 0, 1), over(79, 2), false, true},
		{disk(0, 0, 1), disk(0, 9, -1), over(-79, 2), false, false},
	} {
		for _, pair := range [][2]ball{{x.x, x.y}, {x.y, x.x}} {
			wantTwo(t, pair[0], pair[1])
			c, d := pair[0].disk(), pair[1].disk()
			product, e := descartes.Product(c, d)
			want(t, "Product", product, e, x.product)
			ok, e := descartes.Touch(c, d)
			want(t, "Touch", ok, e, x.touch)
			ok, e = descartes.Apart(c, d)
			want(t, "Apart", ok, e, x.apart)
		}
	}
	ok, e := descartes.Apart(a().disk(), c().disk())
	want(t, "Apart(a, c)", ok, e, true)
}

func TestProductAtTheBound(t *testing.T) { // P20.2
	line := func(co *big.Rat) ball { return ball{none(), in(1, 0), co} }
	unit := about(in(0, 0), rat(1, 1))
	steep := func(co *big.Rat) ball { return ball{none(), parts(3, 5, 4, 5), co} }
	r := rand.New(rand.NewSource(2021))
	long, other := fullUnit(r, api.MaxWhole/2-1), fullUnit(r, api.MaxWhole/2-1)
	for _, x := range []struct {
		x, y ball
		want api.Errno
	}{
		{line(ofInt(top())), unit, api.OK}, // top / 2
		{line(under(more(twos(8191), 1))), unit, api.ErrBig},
		{line(under(more(twos(8190), 1))), unit, api.OK},
		{line(times(rat(2, 1), under(top()))), unit, api.OK},
		{line(ofInt(top())), about(in(0, 0), rat(1, 2)), api.OK},
		{line(ofInt(top())), about(in(0, 0), rat(1, 3)), api.ErrBig},
		{line(opposite(ofInt(top()))), about(in(1, 0), rat(-1, 2)), api.ErrBig},
		{steep(ofInt(top())), line(fullRat(r, api.MaxWhole)), api.OK},       // Co says nothing
		{ball{none(), long, none()}, ball{none(), long, rat(1, 1)}, api.OK}, // -1, though its squares are long
		{ball{none(), long, none()}, ball{none(), long.neg(), ofInt(top())}, api.OK},
		{ball{none(), long, none()}, ball{none(), other, none()}, api.ErrBig},
		{about(in(0, 0), ofInt(top())), about(in(0, 0), ofInt(top())), api.OK},
		{about(in(0, 0), ofInt(top())), about(in(0, 0), under(top())), api.ErrBig},
		{about(in(0, 0), ofInt(top())), about(in(0, 0), opposite(ofInt(top()))), api.OK},
	} {
		_, e := descartes.Product(x.x.disk(), x.y.disk())
		wantError(t, "Product at the bound", e, x.want)
		wantTwo(t, x.x, x.y)
		wantTwo(t, x.y, x.x)
	}
}

func TestTwoRefuse(t *testing.T) { // P20.2, P20.7
	for n, d := range wrongDisks() {
		for _, x := range []api.Disk{a().disk(), longs()[3].disk(), wrongDisks()[(n+1)%len(wrongDisks())]} {
			for _, pair := range [][2]api.Disk{{d, x}, {x, d}, {d, d}} {
				product, e := descartes.Product(pair[0], pair[1])
				wantNone(t, "Product of a wrong disk", product, e, api.ErrArg)
				ok, e := descartes.Apart(pair[0], pair[1])
				wantNone(t, "Apart of a wrong disk", ok, e, api.ErrArg)
				p, e := descartes.Kiss(pair[0], pair[1])
				wantNone(t, "Kiss of a wrong disk", p, e, api.ErrArg)
				ok, e = descartes.Touch(pair[0], pair[1])
				wantNone(t, "Touch of a wrong disk", ok, e, api.ErrArg)
			}
		}
	}
}

func TestTouch(t *testing.T) { // P20.2
	f, g := knot().disks(), strip().disks()
	some, others := f[:], g[:]
	for _, x := range []struct {
		what string
		l    []api.Disk
		want bool
	}{
		{"no disk", nil, true},
		{"an empty list", []api.Disk{}, true},
		{"one disk", some[1:2], true},
		{"a half plane", others[:1], true},
		{"two", some[:2], true},
		{"three", some[1:], true},
		{"four", some, true},
		{"four back to front", []api.Disk{some[3], some[2], some[1], some[0]}, true},
		{"four with half planes", others, true},
		{"half planes side by side", others[:2], true},
		{"the same one twice", []api.Disk{some[1], some[1]}, false},
		{"the same one at the end", append(slices.Clone(some), some[0]), false},
		{"one and itself inside out", []api.Disk{some[1], a().out().disk()}, false},
		{"a half plane and itself inside out", []api.Disk{others[0], strip()[0].out().disk()}, false},
		{"four and one inside out", append(slices.Clone(some), o().out().disk()), false},
		{"three of which two do not touch", []api.Disk{a().disk(), c().disk(), about(parts(-5, 2, 0, 1), rat(1, 2)).disk()}, false},
		{"the last two do not touch", []api.Disk{others[0], balled(1, 0, 1, 0).disk(), balled(1, 4, 1, 16).disk()}, false},
		{"two that touch and one far off", []api.Disk{about(in(50, 0), rat(1, 1)).disk(), a().disk(), b().disk()}, false},
	} {
		ok, e := descartes.Touch(x.l...)
		want(t, "Touch of "+x.what, ok, e, x.want)
	}
	for _, x := range longs() {
		ok, e := descartes.Touch(x.disk())
		want(t, "Touch of one", ok, e, true)
	}
}

func TestTouchOfMany(t *testing.T) { // P20.2
	many := func(count int, d api.Disk) []api.Disk { return slices.Repeat([]api.Disk{d}, count) }
	with := func(l []api.Disk, k int, d api.Disk) []api.Disk {
		l = slices.Clone(l)
		l[k] = d
		return l
	}
	most, wrong := api.MaxTouch, api.Disk{}
	row := func(count int64) (l []api.Disk) { // each one touches the next one
		for n := range count {
			l = append(l, about(in(2*n, 1), rat(1, 1)).disk())
		}
		return l
	}
	for _, x := range []struct {
		what string
		l    []api.Disk
		want api.Errno
	}{
		{"the same MaxTouch times", many(most, a().disk()), api.OK},
		{"a row of MaxTouch", row(64), api.OK},
		{"a row of one more", row(65), api.ErrLong},
		{"the same once more", many(most+1, a().disk()), api.ErrLong},
		{"the same very often", many(5000, a().disk()), api.ErrLong},
		{"a wrong one at the end", with(many(most, a().disk()), most-1, wrong), api.ErrArg},
		{"a wrong one at the beginning", with(many(most, a().disk()), 0, wrong), api.ErrArg},
		{"one more, of which the last one is wrong", with(many(most+1, a().disk()), most, wrong), api.ErrArg},
		{"one more, of which the first one is wrong", with(many(most+1, a().disk()), 0, wrong), api.ErrArg},
		{"very many wrong ones", many(5000, wrong), api.ErrArg},
		{"very many, the last one wrong", with(many(5000, a().disk()), 4999, balled(1, 0, 0, 1).disk()), api.ErrArg},
	} {
		ok, e := descartes.Touch(x.l...)
		wantNone(t, "Touch of "+x.what, ok, e, x.want)
	}
	for _, d := range wrongDisks() {
		ok, e := descartes.Touch(d)
		wantNone(t, "Touch of a wrong disk", ok, e, api.ErrArg)
		ok, e = descartes.Touch(a().disk(), a().disk(), d) // the first two do not touch
		wantNone(t, "Touch of a wrong disk behind others", ok, e, api.ErrArg)
	}
}

func TestKiss(t *testing.T) { // P20.7
	for _, x := range []struct {
		x, y ball
		want spot
	}{
		{a(), b(), on(0, 0)},
		{o(), a(), on(1, 0)},
		{o(), b(), on(-1, 0)},
		{o(), c(), on(0, 1)},
		{a(), c(), at(parts(1, 5, 2, 5))},
		{o().out(), a().out(), on(1, 0)},
		{balled(0, 0, -1, 0), balled(0, 0, 1, 4), far()},
		{balled(0, 0, -1, 0), balled(0, 0, 1, -4), far()},
		{balled(0, 0, -1, 0), balled(1, 0, 1, 0), on(0, 0)},
		{balled(0, 0, 1, 4), balled(1, 2, 1, 4), on(2, 2)},
		{about(in(0, 0), rat(2, 1)), about(in(1, 0), rat(-1, 1)), on(2, 0)},
		{balled(0, 0, -1, 0), about(in(3, -1), rat(-1, 1)), on(3, 0)},
		{about(in(0, 0), rat(2, 1)), about(in(3, 4), rat(3, 1)), at(parts(6, 5, 8, 5))},
	} {
		p, e := descartes.Kiss(x.x.disk(), x.y.disk())
		want(t, "Kiss", p, e, x.want.point())
		p, e = descartes.Kiss(x.y.disk(), x.x.disk())
		want(t, "Kiss the other way round", p, e, x.want.point())
	}
	for _, x := range [][2]ball{{a(), about(in(5, 0), rat(1, 1))}, {a(), a()}, {a(), a().out()}, {o().out(), a()}, {balled(0, 0, -1, 0), balled(0, 1, 0, 0)}} {
		p, e := descartes.Kiss(x[0].disk(), x[1].disk())
		wantNone(t, "Kiss of what does not touch", p, e, api.ErrTouch)
	}
}

// kissing answers two disks that touch at 1 / d, of a whole d whose parts are
// odd: the point's parts are longer than the disks' numbers.
func kissing(x, y *big.Int) (ball, ball) {
	d, co := num{ofInt(x), ofInt(y)}, rat(1, 2)
	side := func(up int64) ball { // through 0 on either side of the real line, slid by d, and then z to 1 / z
		s := ball{co, in(0, up), none()}.slid(d)
		return ball{s.co, s.mid.conj(), s.bend}
	}
	return side(1), side(-1)
}

func TestKissLong(t *testing.T) { // P20.7
	for _, x := range []struct {
		x, y *big.Int
		want api.Errno
	}{
		{more(twos(4095), 1), more(twos(4095), 3), api.OK},
		{more(root(), -1), more(root(), -3), api.ErrBig},
		{more(root(), -1), big.NewInt(-7), api.OK},
		{more(root(), -1), more(twos(2049), 5), api.ErrBig},
		{more(root(), 1), big.NewInt(3), api.ErrBig},
	} {
		a, b := kissing(x.x, x.y)
		if !a.fits() || !b.fits() || !a.touches(b) {
			t.Fatal("both are to touch, and may be")
		}
		_, e := descartes.Kiss(a.disk(), b.disk())
		wantError(t, "Kiss at the bound", e, x.want)
		wantTwo(t, a, b)
		wantTwo(t, b, a)
	}
	r := rand.New(rand.NewSource(2023))
	seen := tally{}
	for n := range 40 {
		a, b := kissing(full(r, api.MaxWhole/2), full(r, api.MaxWhole/2))
		seen.fit(a.kiss(b).fits())
		wantTwo(t, a, b)
		if n%8 > 0 {
			continue
		}
		for _, f := range []quad{
			slide(num{fullRat(r, 240+n/4), rat(1, 3)}).images(strip().row(int64(n))),
			stretch(flat(fullRat(r, 900+n))).images(knot()),
			round(in(1, 2), flat(ofInt(full(r, 200+n))), in(3, 4)).images(knot().row(int64(n))),
		} {
			for k, x := range f {
				for _, y := range f[:k] {
					if x.fits() && y.fits() {
						seen.fit(x.kiss(y).fits())
						wantTwo(t, x, y)
					}
				}
			}
		}
	}
	seen.least(t, 5, "fits", "too big")
}
