package shop_test

import (
	"math"
	"math/big"
	"slices"
	"strconv"
	"strings"
	"testing"

	"tracery/api"
	"tracery/descartes"
	"tracery/frac"
	"tracery/gauss"
	"tracery/shop"
)

// bitsOf are all numbers of arcs, bit by bit.
func bitsOf(l []api.Arc) []uint64 {
	var out []uint64
	for _, a := range l {
		left := uint64(0)
		if a.Left {
			left = 1
		}
		out = append(out, uint64(a.Kind), left, math.Float64bits(a.Radius))
		for _, z := range []complex128{a.From, a.To, a.Centre} {
			out = append(out, math.Float64bits(real(z)), math.Float64bits(imag(z)))
		}
	}
	return out
}

func wantPicture(t *testing.T, what string, s *shop.Shop, want []api.Arc) {
	t.Helper()
	if got := s.Picture(); !slices.Equal(bitsOf(got), bitsOf(want)) {
		t.Fatalf("%.300s: %v, not %v", what, got, want)
	}
}

// ring is what is drawn of the circle 1, b, c, by the formulas of layers 12 and 29.
func ring(b complex128, c float64) api.Arc {
	power := float64(float64(real(b)*real(b))+float64(imag(b)*imag(b))) - c
	return api.Arc{Kind: api.ArcRound, Centre: complex(-real(b), imag(b)), Radius: math.Sqrt(power)}
}

func way(p, q complex128) api.Arc { return api.Arc{Kind: api.ArcStraight, From: p, To: q} }

// What is drawn of each kind of thing, one behind the other.
func TestDraw(t *testing.T) { // P31.1, P31.3
	s := shopOf(t, stock+"; round =third (1/3,-1/7) (2,0); mirrors =many u #1 l #0 third #0 u #1 v #1; disk =d (1/3,-1/7) (-1/3,0)")
	var all []api.Arc
	third := ring(complex(-1.0/3, -1.0/7), -824.0/441)
	four := []api.Arc{ring(0, -1), ring(-0.5, 0), ring(0.5, 0), ring(2i/3.0, 1.0/3)}
	for _, x := range []struct {
		name string
		want []api.Arc
	}{
		{"u", []api.Arc{ring(0, -1)}}, {"v", []api.Arc{ring(-2, 3)}}, {"third", []api.Arc{third}}, {"l", nil}, {"y", nil}, {"q", nil}, {"inf", nil}, {"m", nil}, {"t", nil},
		{"o", []api.Arc{ring(0, -1)}}, {"a", []api.Arc{ring(-0.5, 0)}}, {"c", []api.Arc{ring(2i/3.0, 1.0/3)}}, {"d", []api.Arc{ring(complex(-1.0/3, -1.0/7), 1.0/49)}}, {"h", nil},
		{"f", four}, {"g", []api.Arc{ring(0, -1)}}, {"e", nil}, {"many", []api.Arc{ring(0, -1), third, ring(0, -1), ring(-2, 3)}},
		{"n", []api.Arc{
			way(0, 1), way(0, 1i), way(1, 2), way(1, 1+1i), way(2, 2+1i), way(1i, 1+1i), way(1i, 2i), way(1+1i, 2+1i), way(1+1i, 1+2i), way(2+1i, 2+2i), way(2i, 1+2i), way(1+2i, 2+2i),
		}},
		{"ni", []api.Arc{way(0, -1i), way(1i, -1i)}}, {"u", []api.Arc{ring(0, -1)}},
	} {
		old := stateOf(t, s)
		wantLine(t, s, "draw "+x.name, strconv.Itoa(len(x.want)))
		all = append(all, x.want...)
		wantPicture(t, x.name, s, all)
		old.picture = append(old.picture, x.want...)
		wantState(t, x.name, s, old)
		c := shopOf(t, stock+"; round =third (1/3,-1/7) (2,0); mirrors =many u #1 l #0 third #0 u #1 v #1; disk =d (1/3,-1/7) (-1/3,0)")
		wantLine(t, c, "draw "+x.name, strconv.Itoa(len(x.want)))
		wantPicture(t, x.name, c, x.want)
	}
}

// A net's corners need not be floats, and infinity may be at any corner.
func TestDrawNets(t *testing.T) { // P31.1
	s := shopOf(t, "net =n #1 #1 (1,0) (-1,0) (1/3,1/7) (2/3,1/7) (1/3,10/7)")
	run(t, s, "draw n")
	x, _ := s.Text("n")
	low, high := strings.Fields(x[0]), strings.Fields(x[1])
	p, q, r, u := nearest(t, low[0]), nearest(t, low[1]), nearest(t, high[0]), nearest(t, high[1])
	if p != complex(1.0/3, 1.0/7) || r != complex(1.0/3, 10.0/7) {
		t.Error(p, r)
	}
	wantPicture(t, "n", s, []api.Arc{way(p, q), way(p, r), way(q, u), way(r, u)})
	for k, points := range [][3]string{{"(inf)", "(1,0)", "(0,1)"}, {"(0,0)", "(inf)", "(0,1)"}, {"(0,0)", "(1,0)", "(inf)"}} {
		s := shopOf(t, "net =n #1 #1 (1,0) (-1,0) "+points[0]+" "+points[1]+" "+points[2])
		wantLine(t, s, "draw n", "2")
		for _, a := range s.Picture() {
			if a.Kind != api.ArcStraight || a.From == a.To {
				t.Error(k, a)
			}
		}
	}
	// The last corner: 0, 1, infinity, i have the ratio 1 / i.
	s = shopOf(t, "net =n #1 #1 (0,-1) (1,0) (0,0) (1,0) (0,1)")
	wantText(t, s, "n", "0 1", "1i inf")
	wantLine(t, s, "draw n", "2")
	wantPicture(t, "n", s, []api.Arc{way(0, 1), way(0, 1i)})
}

// nearest reads a number's text, both of whose parts are not 0.
func nearest(t *testing.T, text string) complex128 {
	t.Helper()
	at := strings.LastIndexAny(text, "+-")
	re, is := new(big.Rat).SetString(text[:at])
	im, also := new(big.Rat).SetString(strings.TrimSuffix(text[at:], "i"))
	if !is || !also {
		t.Fatal(text)
	}
	x, _ := re.Float64()
	y, _ := im.Float64()
	return complex(x, y)
}

// Circles whose floats are not finite, too great, or too near.
func TestDrawRefused(t *testing.T) { // P31.1
	s := shopOf(t, stock)
	zero := plain(0)
	for _, x := range []struct {
		name   string
		centre api.Arg
		square api.Frac
		want   api.Errno
	}{
		{"far", along(twos(600)), plain(1), api.ErrFloat},                       // C is past all floats
		{"wide", along(zero), twos(1024), api.ErrFloat},                         // likewise
		{"sum", along(twos(512)), twos(1023), api.ErrFloat},                     // the power is an infinity
		{"edge", along(zero), twos(1023), api.OK},                               // the greatest that goes
		{"near", along(plain(1)), twos(-60), api.ErrNone},                       // the power is 0
		{"less", along(over(power(100), power(100))), twos(-1074), api.ErrNone}, // likewise
		{"tiny", along(zero), twos(-1100), api.ErrNone},                         // C is 0
		{"small", along(zero), twos(-1074), api.OK},                             // the least that goes
		{"below", number(fracOf(1, 3), fracOf(1, 7)), twos(-80), api.ErrNone},   // the power is 0, or below
	} {
		wantDo(t, s, stmt("round", x.name, x.centre, along(x.square)), nil, api.OK)
		want := []string{"1"}
		if x.want != api.OK {
			want = nil
		}
		wantDo(t, s, stmt("draw", "", named(x.name)), want, x.want)
	}
	// A disk, four disks, mirrors, a net, all of whose arcs but one can be drawn.
	wantDo(t, s, stmt("disk", "d", along(twos(600)), along(plain(1))), nil, api.OK)
	wantError(t, s, "draw d", api.ErrFloat)
	wantLine(t, s, "mirrors =z u #1 near #1 far #1 v #1")
	wantError(t, s, "draw z", api.ErrNone)
	wantLine(t, s, "mirrors =z2 u #1 far #1 near #1 v #1")
	wantError(t, s, "draw z2", api.ErrFloat)
	for k, at := range []int{0, 1, 2} {
		args := []api.Arg{count(1), count(1), along(plain(1)), along(plain(-1)), along(zero), along(plain(1)), number(zero, plain(1))}
		args[4+at] = along(twos(1024))
		name := "far" + strconv.Itoa(k)
		wantDo(t, s, stmt("net", name, args...), nil, api.OK)
		wantError(t, s, "draw "+name, api.ErrFloat)
	}
	// A corner beside infinity and a number: there is an arc to the number.
	wantDo(t, s, stmt("net", "far3", count(1), count(1), along(plain(1)), along(plain(-1)), along(twos(1024)), inf(), along(zero)), nil, api.OK)
	wantError(t, s, "draw far3", api.ErrFloat)
}

func fracOf(num, den int64) api.Frac {
	x, _ := frac.Small(num, den)
	return x
}

// An edge that is too big, and of four the first one by the way that is refused.
func TestDrawFourRefused(t *testing.T) { // P31.1
	s := shop.New()
	// The disk about 2 r with the radius r: its numbers are 1 / r, 2 and 3 r, its
	// edge's last one is 3 r r.
	r := twos(4800)
	double := twos(4801)
	wantDo(t, s, stmt("disk", "d", along(double), along(r)), nil, api.OK)
	wantError(t, s, "draw d", api.ErrBig)
	// Disks that stand on the real line: of the radii r and u, their points on it
	// being twice the root of r u from each other.
	for k, x := range []struct{ r, u, apart int }{{600, -600, 1}, {4800, 3400, 4101}} {
		name := func(s string) string { return s + strconv.Itoa(k) }
		wantDo(t, s, stmt("half", name("low"), number(plain(0), plain(1)), along(plain(0))), nil, api.OK)
		wantDo(t, s, stmt("disk", name("r"), number(plain(0), twos(x.r)), along(twos(x.r))), nil, api.OK)
		wantDo(t, s, stmt("disk", name("u"), number(twos(x.apart), twos(x.u)), along(twos(x.u))), nil, api.OK)
		var l [3]api.Disk
		for k, n := range []string{name("low"), name("r"), name("u")} {
			thing, e := s.Thing(n)
			if e != api.OK {
				t.Fatal(e)
			}
			l[k] = thing.Disk
		}
		d, _, e := descartes.Fourth(l[0], l[1], l[2])
		if e != api.OK {
			t.Fatal(e)
		}
		radius, e := frac.Div(plain(1), d.Bend)
		centre, f := gauss.Scale(d.Mid, radius)
		if e != api.OK || f != api.OK {
			t.Fatal(e, f)
		}
		wantDo(t, s, stmt("disk", name("d"), api.Arg{Kind: api.ArgNumber, Z: centre}, along(radius)), nil, api.OK)
		refused := []api.Errno{api.ErrNone, api.ErrBig}[k]
		for n, order := range [][]string{{"low", "r", "u", "d"}, {"low", "u", "r", "d"}, {"r", "u", "low", "d"}, {"u", "low", "r", "d"}} {
			args := make([]api.Arg, 4)
			for k, x := range order {
				args[k] = named(name(x))
			}
			four := name("f" + strconv.Itoa(n) + "-")
			wantDo(t, s, stmt("four", four, args...), nil, api.OK)
			wantError(t, s, "draw "+four, []api.Errno{api.ErrFloat, refused, api.ErrFloat, refused}[n])
		}
	}
}

// A picture of as many arcs as may be.
func TestFullPicture(t *testing.T) { // P31.1, P31.3
	s := shopOf(t, stock)
	args := []api.Arg{count(15), count(15)}
	for k := range 30 {
		args = append(args, along(plain(int64(1-2*(k/15)))))
	}
	for k := range 16 {
		args = append(args, along(plain(int64(k))))
	}
	for k := range 15 {
		args = append(args, number(plain(0), plain(int64(k+1))))
	}
	wantDo(t, s, stmt("net", "big", args...), nil, api.OK)
	for range 8 {
		wantLine(t, s, "draw big", "480")
	}
	wantDo(t, s, stmt("mirrors", "many", slices.Repeat([]api.Arg{named("u"), count(1)}, 32)...), nil, api.OK)
	for range 7 {
		wantLine(t, s, "draw many", "32")
	}
	wantDo(t, s, stmt("round", "far", along(twos(600)), along(plain(1))), nil, api.OK)
	for size := 8*480 + 7*32; size < api.MaxList; {
		room := api.MaxList - size
		for name, n := range map[string]int{"big": 480, "many": 32, "n": 12, "f": 4, "ni": 2, "u": 1, "g": 1} {
			if n > room {
				wantError(t, s, "draw "+name, api.ErrLong)
			}
		}
		wantError(t, s, "draw far", api.ErrFloat)
		n := 1
		name := "u"
		if room > 20 {
			n, name = 12, "n"
		} else if room%2 == 1 {
			n, name = 2, "ni"
		}
		if n > room {
			n, name = 1, "g"
		}
		wantLine(t, s, "draw "+name, strconv.Itoa(n))
		size += n
		if len(s.Picture()) != size {
			t.Fatal(len(s.Picture()), size)
		}
	}
	for _, name := range []string{"u", "v", "a", "o", "f", "k", "n", "ni", "g", "many", "big"} {
		wantError(t, s, "draw "+name, api.ErrLong)
	}
	for _, name := range []string{"l", "y", "q", "m", "h", "e"} {
		wantLine(t, s, "draw "+name, "0")
	}
	wantError(t, s, "draw far", api.ErrFloat) // ErrLong stands behind it
	wantLine(t, s, "point =z (1,0)")          // a full picture is no full shop
	if _, e := s.Copy().Do(read(t, "draw u")); e != api.ErrLong || len(s.Picture()) != api.MaxList {
		t.Error(e)
	}
}

// A thing that passes the bound by several arcs, and one that just does not.
func TestPictureBound(t *testing.T) { // P31.1
	for room := range 6 {
		s := shopOf(t, stock)
		wantDo(t, s, stmt("mirrors", "many", slices.Repeat([]api.Arg{named("v"), count(1)}, 32)...), nil, api.OK)
		for range api.MaxList/32 - 1 {
			if _, e := s.Do(read(t, "draw many")); e != api.OK {
				t.Fatal(e)
			}
		}
		for range 32 - room {
			run(t, s, "draw u")
		}
		if room < 4 {
			wantError(t, s, "draw f", api.ErrLong)
			wantError(t, s, "draw n", api.ErrLong)
		} else {
			wantLine(t, s, "draw f", "4")
		}
		for range room % 4 {
			wantLine(t, s, "draw u", "1")
		}
	}
}
