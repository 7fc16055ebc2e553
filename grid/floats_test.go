package grid_test

import (
	"math"
	"math/big"
	"math/rand"
	"testing"

	"tracery/api"
)

// What these four answer is rounded by itself: Go does not look into them, and so
// can fuse nothing.

//go:noinline
func addF(x, y float64) float64 { return x + y }

//go:noinline
func subF(x, y float64) float64 { return x - y }

//go:noinline
func mulF(x, y float64) float64 { return x * y }

//go:noinline
func divF(x, y float64) float64 { return x / y }

// The table of 'How the floats go', in the order of its brackets.

func sumOf(z, w complex128) complex128 {
	return complex(addF(real(z), real(w)), addF(imag(z), imag(w)))
}

func productOf(z, w complex128) complex128 {
	a, b, c, d := real(z), imag(z), real(w), imag(w)
	return complex(subF(mulF(a, c), mulF(b, d)), addF(mulF(a, d), mulF(b, c)))
}

func quotientOf(z, w complex128) complex128 {
	a, b, c, d := real(z), imag(z), real(w), imag(w)
	m := addF(mulF(c, c), mulF(d, d))
	return complex(divF(addF(mulF(a, c), mulF(b, d)), m), divF(subF(mulF(b, c), mulF(a, d)), m))
}

func nought(z complex128) bool { return real(z) == 0 && imag(z) == 0 }

// nearF is the nearest float; of what comes to 0 it is +0.
func nearF(x *big.Rat) (float64, bool) {
	f, _ := x.Float64()
	return f + 0, !math.IsInf(f, 0)
}

func (z num) near() (complex128, bool) {
	re, there := nearF(z.re)
	im, other := nearF(z.im)
	return complex(re, im), there && other
}

// floats is P9.2's, of the nearest floats; it is not there, if one of these is
// not.
func (g lattice) floats(m chart) ([]api.FPoint, bool) {
	var l [4]complex128
	for k, z := range []num{m.a, m.b, m.c, m.d} {
		w, is := z.near()
		if !is {
			return nil, false
		}
		l[k] = w
	}
	over := func(n, d complex128) api.FPoint {
		if nought(d) {
			return api.FPoint{Inf: true}
		}
		return api.FPoint{Z: quotientOf(n, d)}
	}
	var out []api.FPoint
	for _, p := range g.l {
		if p.inf {
			out = append(out, over(l[0], l[2]))
			continue
		}
		w, is := p.z.near()
		if !is {
			return nil, false
		}
		if m.turns {
			w = complex(real(w), math.Copysign(imag(w), -math.Copysign(1, imag(w))))
		}
		out = append(out, over(sumOf(productOf(l[0], w), l[1]), sumOf(productOf(l[2], w), l[3])))
	}
	return out, true
}

func alike(x, y float64) bool {
	return math.Float64bits(x) == math.Float64bits(y) || math.IsNaN(x) && math.IsNaN(y)
}

func likePoints(p, q api.FPoint) bool {
	return p.Inf == q.Inf && alike(real(p.Z), real(q.Z)) && alike(imag(p.Z), imag(q.Z))
}

func wantFloats(t *testing.T, seen tally, g lattice, m chart) {
	t.Helper()
	got, e := g.grid(t).Floats(m.mob())
	wanted, is := g.floats(m)
	if !is {
		seen["no float"]++
		if got != nil || e != api.ErrFloat {
			t.Fatalf("Floats without a nearest float: %d of them, %v", len(got), e)
		}
		return
	}
	if len(got) != len(wanted) || e != api.OK {
		t.Fatalf("Floats: %d of them, %v, want %d", len(got), e, len(wanted))
	}
	for k, p := range wanted {
		if !likePoints(got[k], p) {
			t.Fatalf("Floats: %v at %d, want %v", got[k], k, p)
		}
		seen["told"]++
		switch {
		case p.Inf:
			seen["infinity"]++
		case real(p.Z) != real(p.Z) || imag(p.Z) != imag(p.Z):
			seen["NaN"]++
		case math.IsInf(real(p.Z), 0) || math.IsInf(imag(p.Z), 0):
			seen["beyond"]++
		case real(p.Z) == 0 && math.Signbit(real(p.Z)) || imag(p.Z) == 0 && math.Signbit(imag(p.Z)):
			seen["-0"]++
		}
	}
}

func TestFloats(t *testing.T) { // P26.5
	seen := tally{}
	for n, g := range nets() {
		for k, m := range charts() {
			if n < 10 || (n+k)%3 == 0 {
				wantFloats(t, seen, g, m)
			}
		}
	}
	seen.least(t, 10, "told", "infinity", "-0")
}

// ends are fractions at the ends of what floats are: halfway between two, about
// the least, about the greatest; of those behind the mark none is the nearest.
func ends() (near, beyond []*big.Rat) {
	limit := new(big.Int).Sub(twos(1024), twos(970))
	half := plus(one(), under(twos(53)))
	near = []*big.Rat{
		none(), one(), rat(1, 3), rat(-1, 10), half, plus(half, under(twos(60))), plus(half, under(twos(52))), under(twos(1074)), under(twos(1075)), plus(under(twos(1075)), under(twos(2000))), opposite(under(twos(1075))), opposite(under(twos(1074))),
		opposite(under(twos(5000))), ratio(big.NewInt(3), twos(1075)), ofInt(twos(1023)), ofInt(more(limit, -1)), opposite(ofInt(more(limit, -1))), ofInt(twos(600)), under(twos(600)), under(top()), ratio(top(), more(top(), -2)),
	}
	beyond = []*big.Rat{ofInt(limit), opposite(ofInt(limit)), ofInt(more(limit, 1)), ofInt(twos(1024)), ofInt(top()), opposite(ofInt(twos(2000))), ratio(top(), twos(300))}
	return near, beyond
}

func TestFloatsAtTheEnds(t *testing.T) { // P26.5
	seen := tally{}
	near, beyond := ends()
	r := rand.New(rand.NewSource(2650))
	maps := charts()
	pick := func() *big.Rat { return near[r.Intn(len(near))] }
	for range 600 {
		g := listed(1, 1, at(num{pick(), pick()}), at(num{pick(), pick()}), far(), at(num{pick(), pick()}))
		wantFloats(t, seen, g, maps[r.Intn(len(maps))])
		m := chart{num{pick(), pick()}, num{pick(), pick()}, in(1, 0), num{pick(), pick()}, r.Intn(2) == 0}
		if r.Intn(3) == 0 {
			m.c, m.d = in(0, 0), in(1, 0)
		}
		if !m.det().zero() {
			wantFloats(t, seen, g, m)
		}
	}
	seen.least(t, 10, "told", "infinity", "NaN", "beyond", "-0")
	// One number without a nearest float, of a point, of the map.
	for _, x := range beyond {
		for _, z := range []num{along(x), upward(x), {x, one()}, {one(), x}, {x, x}} {
			for k := range unit().l {
				wantFloats(t, seen, unit().with(k, at(z)), maps[k])
			}
			wantFloats(t, seen, listed(1, 1, far(), far(), far(), at(z)), still())
			for _, m := range []chart{
				stretch(z), slide(z), {a: z, b: in(1, 0), c: in(1, 0), d: in(0, 0)}, {a: in(0, 0), b: z, c: in(1, 0), d: in(0, 0)}, {a: in(0, 0), b: in(1, 0), c: in(1, 0), d: z},
			} {
				wantFloats(t, seen, unit(), m)
				wantFloats(t, seen, unit(), m.turned())
				wantFloats(t, seen, listed(1, 1, far(), far(), far(), far()), m)
			}
		}
	}
	if seen["no float"] < len(beyond)*5*20 {
		t.Errorf("seen just %d without a nearest float", seen["no float"])
	}
}

func TestFloatsRefusesWrongMaps(t *testing.T) { // P26.5
	for _, m := range wrongMaps() {
		for _, g := range []lattice{unit(), laid(along(ofInt(top())), in(0, 1), in(-1, 0), 1, 1)} { // of the second one no float is the nearest
			if got, e := g.grid(t).Floats(m); got != nil || e != api.ErrArg {
				t.Fatalf("Floats by a wrong map: %d of them, %v", len(got), e)
			}
		}
	}
}

func TestFloatsAtTheBound(t *testing.T) { // P26.5
	g := laid(parts(1, 3, -1, 7), parts(1, 9, 1, 2), parts(-1, 3, 3, 1), 64, 64)
	for _, m := range charts()[:4] {
		wantFloats(t, tally{}, g, m)
	}
}
