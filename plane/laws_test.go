package plane_test

import (
	"math/rand"
	"testing"

	"tracery/api"
	"tracery/circ"
	"tracery/invert"
	"tracery/mob"
	"tracery/plane"
)

func at(z api.Gauss) api.Point { return api.Point{Z: z} }

// sent is where a map sends a number, if that is a number.
func sent(t *testing.T, m api.Mob, z api.Gauss) api.Gauss {
	t.Helper()
	p, e := mob.At(m, at(z))
	if e != api.OK || p.Inf {
		t.Fatalf("%s goes to %v, %v", brief(z), p.Inf, e)
	}
	return p.Z
}

// shorts are points of few digits, near ones among them.
func shorts(p api.Picture, count int) []api.Gauss {
	r := rand.New(rand.NewSource(2700 + int64(p)))
	var l []api.Gauss
	for n := range count {
		z := oddPoint(r, p, 1+n%3)
		if n%2 == 0 {
			z = grains(p)[n/2%len(grains(p))]
		}
		l = append(l, z.gauss())
	}
	return l
}

// carriers are maps with the picture to which they carry each picture's points:
// the charts, and such as keep the picture.
type carrier struct {
	from, to api.Picture
	m        api.Mob
}

func carriers(t *testing.T) []carrier {
	made := must[api.Mob](t)
	var l []carrier
	for _, p := range pictures() {
		for _, q := range pictures() {
			l = append(l, carrier{p, q, made(plane.Chart(p, q))})
		}
		kept, _ := keepers(p, 1, 12)
		for _, m := range kept {
			l = append(l, carrier{p, p, m.mob()})
		}
		z := shorts(p, 8)
		for n := range 4 {
			l = append(l, carrier{p, p, made(plane.Move(p, z[n], z[7-n]))})
		}
		for _, k := range straights(p)[3:9] {
			l = append(l, carrier{p, p, made(invert.Over(k.circle()))})
		}
	}
	return l
}

func TestFarIsADistance(t *testing.T) { // P25.8
	far := must[api.Frac](t)
	for _, p := range pictures() {
		l := shorts(p, 60)
		for _, z := range l {
			for _, w := range l {
				d := far(plane.Far(p, z, w))
				if d != far(plane.Far(p, w, z)) {
					t.Fatalf("Far of %s and %s hangs on their order", brief(z), brief(w))
				}
				if c := ratOf(d).Cmp(one()); c < 0 || (c == 0) != (z == w) {
					t.Fatalf("Far of %s and %s is %s", brief(z), brief(w), brief(d))
				}
			}
		}
		for _, z := range longs(p) {
			d, e := plane.Far(p, z.gauss(), z.gauss())
			want(t, "Far of a point and itself", d, e, fraction(one()))
		}
	}
}

// P25.8, P0.11: maps that keep the picture keep all that is told, and Chart
// takes it to the other picture.
func TestAllIsCarriedOn(t *testing.T) {
	far, ring, number, yes := must[api.Frac](t), must[api.Circle](t), must[api.Gauss](t), must[bool](t)
	for n, c := range carriers(t) {
		l := shorts(c.from, 40)
		lines := straights(c.from)
		for k, z := range l {
			w, x := l[(k*7+n)%len(l)], l[(k*3+5)%len(l)]
			if z == w || z == x {
				continue
			}
			a, b, d := sent(t, c.m, z), sent(t, c.m, w), sent(t, c.m, x)
			if !plane.Has(c.to, a) {
				t.Fatalf("%s is sent out", brief(z))
			}
			want(t, "Far", far(plane.Far(c.to, a, b)), api.OK, far(plane.Far(c.from, z, w)))
			want(t, "Line", ring(plane.Line(c.to, a, b)), api.OK, ring(circ.Image(c.m, ring(plane.Line(c.from, z, w)))))
			want(t, "Middle", ring(plane.Middle(c.to, a, b)), api.OK, ring(circ.Image(c.m, ring(plane.Middle(c.from, z, w)))))
			want(t, "Between", yes(plane.Between(c.to, a, d, b)), api.OK, yes(plane.Between(c.from, z, x, w)))
			cos2, sharp, e := plane.Angle(c.from, z, w, x)
			other, sign, wrong := plane.Angle(c.to, a, b, d)
			if cos2 != other || sharp != sign || e != api.OK || wrong != api.OK {
				t.Fatalf("Angle is %s, %d, and then %s, %d", brief(cos2), sharp, brief(other), sign)
			}
			by := fraction(rat(int64(k+3), int64(k+2)))
			want(t, "Around", ring(plane.Around(c.to, a, by)), api.OK, ring(circ.Image(c.m, ring(plane.Around(c.from, z, by)))))
			line := lines[(k*11+n)%len(lines)].circle()
			image := ring(circ.Image(c.m, line))
			want(t, "IsLine", yes(plane.IsLine(c.to, image)), api.OK, true)
			want(t, "Upright", ring(plane.Upright(c.to, image, a)), api.OK, ring(circ.Image(c.m, ring(plane.Upright(c.from, line, z)))))
			want(t, "Over", number(plane.Over(c.to, image, a)), api.OK, sent(t, c.m, number(plane.Over(c.from, line, z))))
			foot, e := plane.Foot(c.from, line, z)
			if other, wrong := plane.Foot(c.to, image, a); e != wrong || e == api.OK && other != sent(t, c.m, foot) {
				t.Fatalf("Foot is %s, %v, and then %s, %v", brief(foot), e, brief(other), wrong)
			}
		}
	}
}

// P25.8: Keeps is true of what Move answers, and of turnings over straight lines.
func TestMovesKeep(t *testing.T) {
	made, yes, ring := must[api.Mob](t), must[bool](t), must[api.Circle](t)
	for _, p := range pictures() {
		l := shorts(p, 40)
		for n, z := range l {
			w := l[(n*7+3)%len(l)]
			m := made(plane.Move(p, z, w))
			if !yes(plane.Keeps(p, m)) || sent(t, m, z) != w || mob.Check(m) != api.OK || m.Turns {
				t.Fatalf("Move from %s to %s is %s", brief(z), brief(w), brief(m))
			}
			if m != made(mob.Inverse(made(plane.Move(p, w, z)))) {
				t.Fatalf("Move from %s to %s and back moves something", brief(z), brief(w))
			}
			if z == w {
				continue
			}
			for _, c := range []api.Circle{ring(plane.Line(p, z, w)), ring(plane.Middle(p, z, w))} {
				if !yes(plane.IsLine(p, c)) || !yes(plane.Keeps(p, made(invert.Over(c)))) {
					t.Fatalf("the turning over %s does not keep the picture", brief(c))
				}
			}
			if c := ring(plane.Around(p, z, fraction(rat(3, 2)))); yes(plane.IsLine(p, c)) || yes(plane.Keeps(p, made(invert.Over(c)))) {
				t.Fatalf("the turning over %s keeps the picture", brief(c))
			}
		}
		for _, q := range pictures() {
			m := made(plane.Chart(p, q))
			if yes(plane.Keeps(p, m)) != (p == q) || made(mob.Compose(made(plane.Chart(q, p)), m)) != mob.One() {
				t.Errorf("Chart from %d to %d does not lead back", p, q)
			}
		}
	}
}

// P25.4 to P25.6: what lines are, by the layers below.
func TestLinesAreWhatTheyAre(t *testing.T) {
	ring, number, yes, far, moved := must[api.Circle](t), must[api.Gauss](t), must[bool](t), must[api.Frac](t), must[api.Point](t)
	for _, p := range pictures() {
		edge := edgeOf(p).circle()
		l := shorts(p, 60)
		feet := 0
		for n, z := range l {
			w := l[(n*7+3)%len(l)]
			if z == w {
				continue
			}
			line, middle := ring(plane.Line(p, z, w)), ring(plane.Middle(p, z, w))
			if !yes(circ.On(line, at(z), at(w))) || !yes(invert.Right(line, edge)) || line != ring(plane.Line(p, w, z)) {
				t.Fatalf("Line of %s and %s is %s", brief(z), brief(w), brief(line))
			}
			if !yes(invert.Right(middle, edge)) || !yes(invert.Right(middle, line)) || moved(invert.Point(middle, at(z))) != at(w) || number(plane.Over(p, middle, z)) != w {
				t.Fatalf("Middle of %s and %s is %s", brief(z), brief(w), brief(middle))
			}
			for _, k := range straights(p)[n%10 : n%10+12] {
				c := k.circle()
				up, over := ring(plane.Upright(p, c, z)), number(plane.Over(p, c, z))
				if !yes(circ.On(up, at(z), at(over))) || !yes(invert.Right(up, edge)) || !yes(invert.Right(up, c)) {
					t.Fatalf("Upright on %s from %s is %s", brief(c), brief(z), brief(up))
				}
				if at(over) != moved(invert.Point(c, at(z))) || number(plane.Over(p, c, over)) != z || (over == z) != yes(circ.On(c, at(z))) {
					t.Fatalf("%s over %s is %s", brief(z), brief(c), brief(over))
				}
				if over != z && ring(plane.Middle(p, z, over)) != c {
					t.Fatalf("Middle of %s and %s is not %s", brief(z), brief(over), brief(c))
				}
				foot, e := plane.Foot(p, c, z)
				if e != api.OK {
					continue
				}
				feet++
				if !plane.Has(p, foot) || !yes(circ.On(c, at(foot))) || !yes(circ.On(up, at(foot))) || !yes(plane.Between(p, z, foot, over)) || far(plane.Far(p, z, foot)) != far(plane.Far(p, over, foot)) || number(plane.Foot(p, c, over)) != foot {
					t.Fatalf("Foot on %s from %s is %s", brief(c), brief(z), brief(foot))
				}
			}
		}
		if feet < 10 {
			t.Errorf("just %d feet", feet)
		}
	}
}

// P25.8: r - p q is the root of (p p - 1) (q q - 1) just on a straight way, and
// its square is never more.
func TestThreePoints(t *testing.T) {
	far, yes := must[api.Frac](t), must[bool](t)
	for _, p := range pictures() {
		seen := tally{}
		check := func(z, x, w api.Gauss) {
			t.Helper()
			a, b, r := ratOf(far(plane.Far(p, z, x))), ratOf(far(plane.Far(p, x, w))), ratOf(far(plane.Far(p, z, w)))
			less := minus(r, times(a, b))
			most := times(minus(squared(a), one()), minus(squared(b), one()))
			sign := squared(less).Cmp(most)
			if sign > 0 {
				t.Fatalf("%s, %s and %s are too far from each other", brief(z), brief(x), brief(w))
			}
			is := yes(plane.Between(p, z, x, w))
			if is != (sign == 0 && less.Sign() >= 0) {
				t.Fatalf("Between of %s, %s, %s is %v", brief(z), brief(x), brief(w), is)
			}
			seen.when("is", is)
			seen.when("beyond", !is && sign == 0)
			seen.when("off it", sign < 0)
		}
		l := shorts(p, 60)
		for n, z := range l {
			for m, w := range l {
				check(z, l[(n*7+m*3)%len(l)], w)
			}
		}
		r := rand.New(rand.NewSource(2710 + int64(p)))
		for n := range 60 {
			l := threes(r, p, 1+n/20)
			check(l[0].gauss(), l[1].gauss(), l[2].gauss())
			check(l[1].gauss(), l[0].gauss(), l[2].gauss())
		}
		seen.least(t, 40, "is", "beyond", "off it")
	}
}

func TestTriangles(t *testing.T) { // P25.9
	far := must[api.Frac](t)
	for _, p := range pictures() {
		l := shorts(p, 60)
		seen := tally{}
		for n, x := range l {
			for m, y := range l {
				z := l[(n*7+m*3)%len(l)]
				if x == y || x == z {
					continue
				}
				a, b, c := ratOf(far(plane.Far(p, x, y))), ratOf(far(plane.Far(p, x, z))), ratOf(far(plane.Far(p, y, z)))
				less := minus(times(a, b), c)
				square := quo(squared(less), times(minus(squared(a), one()), minus(squared(b), one())))
				cos2, sharp, e := plane.Angle(p, x, y, z)
				want(t, "Angle at "+brief(x), angle{cos2, sharp}, e, angle{fraction(square), less.Sign()})
				again, sign, e := plane.Angle(p, x, z, y)
				want(t, "Angle, the other way", angle{again, sign}, e, angle{cos2, sharp})
				seen.when([]string{"blunt", "right", "sharp"}[sharp+1], true)
			}
		}
		seen.least(t, 2, "blunt", "right", "sharp")
	}
}

// P25.5, P25.7: what is upright makes a right angle, in each picture.
func TestUprightIsARightAngle(t *testing.T) {
	ring, number, yes := must[api.Circle](t), must[api.Gauss](t), must[bool](t)
	for _, p := range pictures() {
		r := rand.New(rand.NewSource(2720 + int64(p)))
		l, seen := shorts(p, 40), 0
		for n := range 200 {
			k, point := footed(r, p, 1+n/100)
			if !k.fits() || !point.fits() || !within(p, point) || k.value(point).Sign() == 0 {
				continue
			}
			c, z := k.circle(), point.gauss()
			foot, over := number(plane.Foot(p, c, z)), number(plane.Over(p, c, z))
			if foot == z || !yes(plane.Between(p, z, foot, over)) || number(plane.Foot(p, c, over)) != foot {
				t.Fatalf("Foot on %s from %s is %s", brief(c), brief(z), brief(foot))
			}
			cos2, sharp, e := plane.Angle(p, foot, z, over)
			want(t, "Angle", angle{cos2, sharp}, e, angle{fraction(one()), -1})
			// Turned over what is upright on the line the foot stays on it.
			other := number(plane.Over(p, ring(plane.Upright(p, c, l[n%len(l)])), foot))
			if !yes(circ.On(c, at(foot), at(other))) {
				t.Fatalf("%s and %s are not both on %s", brief(foot), brief(other), brief(c))
			}
			if other == foot {
				continue
			}
			seen++
			cos2, sharp, e = plane.Angle(p, foot, z, other)
			want(t, "Angle", angle{cos2, sharp}, e, angle{fraction(none()), 0})
			if cos2, sharp, e = plane.Angle(p, other, foot, z); e != api.OK || sharp != 1 || ratOf(cos2).Cmp(one()) >= 0 {
				t.Fatalf("Angle beside a right one is %s, %d, %v", brief(cos2), sharp, e)
			}
		}
		if seen < 60 {
			t.Errorf("just %d right angles", seen)
		}
	}
}

// P25.1 to P25.7: answers do not hang on earlier calls, and what is refused
// leaves nothing behind.
func TestAgain(t *testing.T) {
	type told struct {
		far        api.Frac
		move       api.Mob
		line       api.Circle
		middle     api.Circle
		around     api.Circle
		upright    api.Circle
		foot, over api.Gauss
		between    bool
		angle      angle
		es         [9]api.Errno
	}
	ask := func(p api.Picture, z, x, w api.Gauss, c api.Circle) (l told) {
		l.far, l.es[0] = plane.Far(p, z, w)
		l.move, l.es[1] = plane.Move(p, z, w)
		l.line, l.es[2] = plane.Line(p, z, w)
		l.middle, l.es[3] = plane.Middle(p, z, w)
		l.around, l.es[4] = plane.Around(p, z, fraction(rat(7, 5)))
		l.upright, l.es[5] = plane.Upright(p, c, z)
		l.foot, l.es[6] = plane.Foot(p, c, z)
		l.over, _ = plane.Over(p, c, z)
		l.between, l.es[7] = plane.Between(p, z, x, w)
		l.angle.cos2, l.angle.sharp, l.es[8] = plane.Angle(p, z, x, w)
		return l
	}
	wrong := []api.Gauss{{}, in(0, -3).gauss(), in(7, 0).gauss(), {Re: wrongFracs()[4], Im: fraction(one())}}
	for _, p := range pictures() {
		l, lines := shorts(p, 30), straights(p)
		for n, z := range l {
			x, w, c := l[(n+5)%len(l)], l[(n+11)%len(l)], lines[n%len(lines)].circle()
			first := ask(p, z, x, w, c)
			ask(api.Upper+api.Round-p, w, z, x, edgeOf(p).circle())
			for k := range wrong {
				ask(p, wrong[k], x, wrong[(k+1)%len(wrong)], c)
				ask(api.Picture(k*3), z, x, w, c)
			}
			if again := ask(p, z, x, w, c); again != first {
				t.Fatalf("of %s, %s, %s is told otherwise again", brief(z), brief(x), brief(w))
			}
		}
	}
}

// P25.1 to P25.7: all that is told is in its one form.
func TestAnswersMayBe(t *testing.T) {
	form := func(x api.Frac) {
		t.Helper()
		if x.Den.Mag == "" || x != fraction(ratOf(x)) {
			t.Fatalf("%s is not in its form", brief(x))
		}
	}
	far, made, ring, number := must[api.Frac](t), must[api.Mob](t), must[api.Circle](t), must[api.Gauss](t)
	for _, p := range pictures() {
		l, lines := shorts(p, 40), straights(p)
		for n, z := range l {
			w, c := l[(n*7+3)%len(l)], lines[n%len(lines)].circle()
			if z == w {
				continue
			}
			form(far(plane.Far(p, z, w)))
			if cos2, _, e := plane.Angle(p, z, w, l[(n*7+4)%len(l)]); e == api.OK {
				form(cos2)
			}
			over := number(plane.Over(p, c, z))
			form(over.Re)
			form(over.Im)
			for _, k := range []api.Circle{ring(plane.Line(p, z, w)), ring(plane.Middle(p, z, w)), ring(plane.Upright(p, c, z)), ring(plane.Around(p, z, fraction(rat(9, 7))))} {
				if circ.Check(k) != api.OK {
					t.Fatalf("%s may not be", brief(k))
				}
			}
			if m := made(plane.Move(p, z, w)); mob.Check(m) != api.OK {
				t.Fatalf("%s may not be", brief(m))
			}
		}
	}
}
