package plane_test

import (
	"fmt"
	"slices"
	"testing"

	"tracery/api"
	"tracery/plane"
)

// given is what a call is handed, as far as it takes such.
type given struct {
	z   []api.Gauss
	c   api.Circle
	far api.Frac
	m   api.Mob
}

// call is a call with a picture: how many numbers it takes, what else, which of
// its numbers may not be the same.
type call struct {
	name            string
	numbers         int
	ring, far, maps bool
	same            [][2]int
	do              func(p api.Picture, g given) (bool, api.Errno)
}

// empty tells whether an answer is zero.
func empty[T comparable](x T, e api.Errno) (bool, api.Errno) {
	var zero T
	return x == zero, e
}

func calls() []call {
	both := [][2]int{{0, 1}}
	return []call{
		{name: "Far", numbers: 2, do: func(p api.Picture, g given) (bool, api.Errno) { return empty(plane.Far(p, g.z[0], g.z[1])) }},
		{name: "Keeps", maps: true, do: func(p api.Picture, g given) (bool, api.Errno) { return empty(plane.Keeps(p, g.m)) }},
		{name: "Move", numbers: 2, do: func(p api.Picture, g given) (bool, api.Errno) { return empty(plane.Move(p, g.z[0], g.z[1])) }},
		{name: "Line", numbers: 2, same: both, do: func(p api.Picture, g given) (bool, api.Errno) { return empty(plane.Line(p, g.z[0], g.z[1])) }},
		{name: "IsLine", ring: true, do: func(p api.Picture, g given) (bool, api.Errno) { return empty(plane.IsLine(p, g.c)) }},
		{name: "Upright", numbers: 1, ring: true, do: func(p api.Picture, g given) (bool, api.Errno) { return empty(plane.Upright(p, g.c, g.z[0])) }},
		{name: "Foot", numbers: 1, ring: true, do: func(p api.Picture, g given) (bool, api.Errno) { return empty(plane.Foot(p, g.c, g.z[0])) }},
		{name: "Over", numbers: 1, ring: true, do: func(p api.Picture, g given) (bool, api.Errno) { return empty(plane.Over(p, g.c, g.z[0])) }},
		{name: "Middle", numbers: 2, same: both, do: func(p api.Picture, g given) (bool, api.Errno) { return empty(plane.Middle(p, g.z[0], g.z[1])) }},
		{name: "Around", numbers: 1, far: true, do: func(p api.Picture, g given) (bool, api.Errno) { return empty(plane.Around(p, g.z[0], g.far)) }},
		{name: "Between", numbers: 3, do: func(p api.Picture, g given) (bool, api.Errno) { return empty(plane.Between(p, g.z[0], g.z[1], g.z[2])) }},
		{name: "Angle", numbers: 3, same: [][2]int{{0, 1}, {0, 2}}, do: func(p api.Picture, g given) (bool, api.Errno) {
			cos2, sharp, e := plane.Angle(p, g.z[0], g.z[1], g.z[2])
			return empty(angle{cos2, sharp}, e)
		}},
	}
}

// good is what no call refuses but for its length: points of both pictures, a
// straight line of both.
func good() given {
	return given{
		z:   []api.Gauss{parts(0, 1, 1, 2).gauss(), parts(0, 1, 1, 3).gauss(), parts(0, 1, 1, 5).gauss()},
		c:   ringed(0, 1, 0, 0).circle(),
		far: fraction(rat(5, 4)),
		m:   still().mob(),
	}
}

// put puts a number in a place.
func (g given) put(k int, z api.Gauss) given {
	g.z = slices.Clone(g.z)
	g.z[k] = z
	return g
}

func (x call) refuses(t *testing.T, p api.Picture, g given, wanted api.Errno) {
	t.Helper()
	if zero, e := x.do(p, g); e != wanted || !zero {
		t.Fatalf("%s in %d is %v, nothing beside it: %v; want %v", x.name, p, e, zero, wanted)
	}
}

func TestGoodIsTaken(t *testing.T) { // what the tests lean on
	for _, x := range calls() {
		for _, p := range pictures() {
			if _, e := x.do(p, good()); e != api.OK {
				t.Errorf("%s in %d is %v", x.name, p, e)
			}
		}
	}
}

// besideWrong are what may stand beside what is refused with ErrArg: what is
// good, numbers that are no points, numbers that are the same, and a circle that
// is no straight line.
func besideWrong(p api.Picture) []given {
	l := []given{good()}
	for _, z := range outs(p)[:3] {
		g := good()
		g.z = []api.Gauss{z.gauss(), z.gauss(), z.gauss()}
		l = append(l, g, good().put(0, z.gauss()), good().put(1, z.gauss()), good().put(2, z.gauss()))
		g.c = edgeOf(p).circle()
		l = append(l, g)
	}
	g := good()
	g.z = []api.Gauss{g.z[0], g.z[0], g.z[0]}
	l = append(l, g)
	g.c = crooked(p)[3].circle()
	return append(l, g)
}

// P25.1, P25.3 to P25.7: a picture that is none, ahead of all else.
func TestNoPicture(t *testing.T) {
	numbers, circles, maps, fracs := wrongNumbers(), wrongCircles(), wrongMaps(), wrongFracs()
	for _, x := range calls() {
		for _, p := range noPictures() {
			for _, q := range pictures() {
				for _, g := range besideWrong(q) {
					x.refuses(t, p, g, api.ErrArg)
				}
			}
			for n, z := range numbers {
				g := good()
				for k := range g.z {
					x.refuses(t, p, g.put(k, z), api.ErrArg)
				}
				g.c, g.m, g.far = circles[n%len(circles)], maps[n], fracs[n%len(fracs)]
				x.refuses(t, p, g, api.ErrArg)
			}
		}
	}
}

// P25.1, P25.3 to P25.7: what may not be, in each place, ahead of ErrOut and of
// ErrSame.
func TestWhatMayNotBe(t *testing.T) {
	for _, x := range calls() {
		for _, p := range pictures() {
			for _, g := range besideWrong(p) {
				for _, z := range wrongNumbers() {
					for k := range x.numbers {
						x.refuses(t, p, g.put(k, z), api.ErrArg)
					}
				}
				if x.ring {
					for _, g.c = range wrongCircles() {
						x.refuses(t, p, g, api.ErrArg)
					}
				}
			}
			g := good()
			if x.maps {
				for _, g.m = range wrongMaps() {
					x.refuses(t, p, g, api.ErrArg)
				}
			}
		}
	}
}

// P25.1, P25.3 to P25.7: numbers that are no points, in each place, ahead of
// ErrSame and of all else; circles that are no straight lines likewise.
func TestOut(t *testing.T) {
	for _, x := range calls() {
		for _, p := range pictures() {
			for _, z := range outs(p) {
				for k := range x.numbers {
					x.refuses(t, p, good().put(k, z.gauss()), api.ErrOut)
					for l := range x.numbers {
						x.refuses(t, p, good().put(k, z.gauss()).put(l, z.gauss()), api.ErrOut)
					}
					if x.numbers == 3 { // the others are the same
						g := good()
						for l := range g.z {
							g = g.put(l, g.z[0])
						}
						x.refuses(t, p, g.put(k, z.gauss()), api.ErrOut)
					}
				}
			}
			if !x.ring || x.numbers == 0 {
				continue
			}
			for n, k := range crooked(p) {
				g := good()
				g.c = k.circle()
				x.refuses(t, p, g, api.ErrOut)
				x.refuses(t, p, g.put(0, outs(p)[n%5].gauss()), api.ErrOut)
				for _, z := range longs(p)[:2+n%5] { // what would be too big, or none
					x.refuses(t, p, g.put(0, z.gauss()), api.ErrOut)
				}
			}
			for _, z := range outs(p) {
				g := good().put(0, z.gauss())
				for _, k := range longStraights(p) {
					g.c = k.circle()
					x.refuses(t, p, g, api.ErrOut)
				}
			}
		}
	}
}

// P25.4, P25.6, P25.7: two points that may not be the same; in Angle ahead of
// ErrBig.
func TestSame(t *testing.T) {
	for _, x := range calls() {
		for _, p := range pictures() {
			for _, z := range points(p) {
				for _, pair := range x.same {
					for _, w := range append(longs(p)[:3], grains(p)[0]) {
						g := good()
						for k := range g.z {
							g = g.put(k, w.gauss())
						}
						x.refuses(t, p, g.put(pair[0], z.gauss()).put(pair[1], z.gauss()), api.ErrSame)
					}
				}
			}
			if len(x.same) > 0 {
				continue
			}
			g := good() // all others take points that are the same
			if _, e := x.do(p, given{z: []api.Gauss{g.z[0], g.z[0], g.z[0]}, c: g.c, far: g.far, m: g.m}); e != api.OK {
				t.Errorf("%s of points that are the same is %v", x.name, e)
			}
		}
	}
}

// P25.1 to P25.7: what is asked of a zero picture, of zero numbers.
func TestZeroes(t *testing.T) {
	for _, x := range calls() {
		for _, p := range append(pictures(), 0) {
			x.refuses(t, p, given{z: make([]api.Gauss, 3)}, api.ErrArg)
		}
	}
	if plane.Has(0, api.Gauss{}) || plane.Has(api.Upper, api.Gauss{}) {
		t.Error("Has of nothing is true")
	}
	if fmt.Sprint(api.ErrOut, api.ErrSame) != "error 350 error 200" {
		t.Error("the errors have other numbers")
	}
}
