package fixed_test

import (
	"math"
	"math/big"
	"math/rand"
	"testing"

	"tracery/api"
	"tracery/cplx"
	"tracery/fixed"
)

// What these four answer is rounded by itself: Go does not look into them, and so
// can fuse nothing.

//go:noinline
func sum(x, y float64) float64 { return x + y }

//go:noinline
func difference(x, y float64) float64 { return x - y }

//go:noinline
func product(x, y float64) float64 { return x * y }

//go:noinline
func quotient(x, y float64) float64 { return x / y }

// The table of 'How the floats go', in the order of its brackets.

func sumOf(z, w complex128) complex128 {
	return complex(sum(real(z), real(w)), sum(imag(z), imag(w)))
}

func differenceOf(z, w complex128) complex128 {
	return complex(difference(real(z), real(w)), difference(imag(z), imag(w)))
}

func productOf(z, w complex128) complex128 {
	a, b, c, d := real(z), imag(z), real(w), imag(w)
	return complex(difference(product(a, c), product(b, d)), sum(product(a, d), product(b, c)))
}

func quotientOf(z, w complex128) complex128 {
	a, b, c, d := real(z), imag(z), real(w), imag(w)
	m := sum(product(c, c), product(d, d))
	return complex(quotient(sum(product(a, c), product(b, d)), m), quotient(difference(product(b, c), product(a, d)), m))
}

func scaledOf(z complex128, r float64) complex128 {
	return complex(product(real(z), r), product(imag(z), r))
}

func alike(x, y float64) bool {
	return math.Float64bits(x) == math.Float64bits(y) || math.IsNaN(x) && math.IsNaN(y)
}

func like(p, q api.FPoint) bool {
	return p.Inf == q.Inf && alike(real(p.Z), real(q.Z)) && alike(imag(p.Z), imag(q.Z))
}

// nearest goes by math/big; the bool tells whether there is one.
func nearest(x *big.Rat) (float64, bool) {
	f, _ := x.Float64()
	if f == 0 { // of what comes to 0 from below math/big tells -0
		f = 0
	}
	return f, !math.IsInf(f, 0)
}

func nearestNum(z num) (complex128, bool) {
	re, ok := nearest(z.re)
	im, is := nearest(z.im)
	return complex(re, im), ok && is
}

// floats is P15.3, word by word.
func (m chart) floats() ([]api.FPoint, api.Errno) {
	if m.turns || m.still() {
		return nil, api.ErrMoved
	}
	a, okA := nearestNum(m.a)
	b, okB := nearestNum(m.b)
	d, okD := nearestNum(m.d)
	if !okA || !okB || !okD {
		return nil, api.ErrFloat
	}
	if m.c.zero() {
		l := []api.FPoint{{Inf: true}}
		if !m.a.same(in(1, 0)) {
			l = append(l, api.FPoint{Z: quotientOf(b, differenceOf(1, a))})
		}
		return l, api.OK
	}
	e := differenceOf(a, d)
	r, wrong := cplx.Sqrt(sumOf(productOf(e, e), scaledOf(b, 4)))
	if wrong != api.OK {
		return nil, wrong
	}
	l := []api.FPoint{{Z: scaledOf(sumOf(e, r), 0.5)}}
	if m.kind() != api.MobShift {
		l = append(l, api.FPoint{Z: scaledOf(differenceOf(e, r), 0.5)})
	}
	return l, api.OK
}

func sameFloats(l, k []api.FPoint) bool {
	for n := range l {
		if len(l) != len(k) || !like(l[n], k[n]) {
			return false
		}
	}
	return len(l) == len(k)
}

func wantFloats(t *testing.T, m chart) string {
	t.Helper()
	got, e := fixed.Floats(m.mob())
	wanted, wrong := m.floats()
	if e != wrong || !sameFloats(got, wanted) {
		t.Fatalf("the floats of %s: %v, %v, want %v, %v", briefMap(m), got, e, wanted, wrong)
	}
	switch {
	case wrong == api.ErrFloat:
		return "ErrFloat"
	case wrong == api.ErrMoved:
		return "ErrMoved"
	}
	for _, p := range wanted {
		if cplx.NaN(p.Z) {
			return "NaN"
		}
		if !cplx.Finite(p.Z) {
			return "infinite"
		}
	}
	return []string{"", "one", "two"}[len(wanted)]
}

func TestFloatsExamples(t *testing.T) { // P15.3
	nan, half := math.NaN(), 0.5*math.Sqrt(3)
	near, tiny := flat(ofInt(twos(100))).inverse(), flat(ofInt(twos(4000))).inverse()
	unit := in(1, 0)
	inf := api.FPoint{Inf: true}
	at := func(re, im float64) api.FPoint { return api.FPoint{Z: complex(re, im)} }
	for _, x := range []struct {
		m    chart
		want []api.FPoint
	}{
		{third(), []api.FPoint{at(-0.5, half), at(-0.5, -half)}},
		{slide(in(1, 0)), []api.FPoint{inf}},
		{swap(), []api.FPoint{at(0, 1), at(0, -1)}},
		{stretch(in(2, 0)), []api.FPoint{inf, at(0, math.Copysign(0, -1))}}, // 0 times -1, less 0
		{stretch(flat(rat(1, 2))), []api.FPoint{inf, at(0, 0)}},
		{charted(3, -1, 1, 1), []api.FPoint{at(1, 0)}},
		{charted(0, 2, 1, 0), []api.FPoint{at(0.5*math.Sqrt(8), 0), at(-0.5*math.Sqrt(8), 0)}},
		// What is not 1, but whose nearest float is.
		{chart{a: unit.plus(near), b: unit, c: in(0, 0), d: unit}, []api.FPoint{inf, at(nan, nan)}},
		{chart{a: unit.plus(tiny.times(in(0, 1))), b: in(0, 0), c: in(0, 0), d: unit}, []api.FPoint{inf, at(nan, nan)}},
		// Two points whose floats are the same; one, where the floats tell two.
		{curved(unit, near.minus(unit), in(-1, 0)), []api.FPoint{at(1, 0), at(1, 0)}},
		{curved(in(0, 0), tiny.neg(), in(0, 0)), []api.FPoint{at(0, 0), at(0, 0)}},
		// A finite number's root that is infinite.
		{curved(in(0, 0), num{ofInt(twos(1021)), ofInt(twos(1021))}.scaled(rat(15, 8)), in(0, 0)), []api.FPoint{at(math.Inf(1), 0), at(math.Inf(-1), 0)}},
	} {
		got, e := fixed.Floats(x.m.mob())
		if e != api.OK || !sameFloats(got, x.want) {
			t.Errorf("the floats of %s: %v, %v, want %v", briefMap(x.m), got, e, x.want)
		}
		wantFloats(t, x.m)
	}
}

// Whether it is one point the exact map says, even where the floats say two.
func TestFloatsOfShifts(t *testing.T) { // P15.3
	r := rand.New(rand.NewSource(1530))
	apart := 0
	for range 300 {
		p, b := oddNum(r, 3), oddNum(r, 3)
		if b.zero() {
			continue
		}
		m := pushed(at(p), b)
		got := must[[]api.FPoint](t)(fixed.Floats(m.mob()))
		if wantFloats(t, m); len(got) != 1 {
			t.Fatalf("%d points of %s", len(got), briefMap(m))
		}
		if f, _ := nearestNum(p); !like(got[0], api.FPoint{Z: f}) {
			apart++
		}
	}
	if apart < 50 {
		t.Errorf("just %d times the floats are beside", apart)
	}
}

func TestFloatsMany(t *testing.T) { // P15.3
	seen := tally{}
	for _, m := range grains() {
		seen[wantFloats(t, m)]++
		wantFloats(t, m.turned())
	}
	r := rand.New(rand.NewSource(1531))
	for range 600 {
		seen[wantFloats(t, oddMap(r, 20))]++
		seen[wantFloats(t, oddMap(r, 150))]++
	}
	seen.least(t, 20, "one", "two", "ErrFloat")
	for _, m := range longs() {
		wantFloats(t, m)
		wantFloats(t, m.turned())
	}
}

// edge makes numbers of great and small magnitudes, by what floats are made of.
func edge(r *rand.Rand) *big.Rat {
	by := []uint{0, 1, 52, 100, 511, 512, 600, 1000, 1021, 1022, 1023, 1073, 1074, 1075, 1100}[r.Intn(15)]
	x := new(big.Rat).SetFrac(twos(by), big.NewInt(int64(1+r.Intn(3))))
	if r.Intn(2) == 0 {
		x.Inv(x)
	}
	switch r.Intn(8) {
	case 0:
		return none()
	case 1, 2, 3:
		return x.Neg(x)
	}
	return x
}

func TestFloatsAtTheEnds(t *testing.T) { // P15.3
	r := rand.New(rand.NewSource(1532))
	seen := tally{}
	number := func() num { return num{edge(r), edge(r)} }
	for n := range 6000 {
		m := curved(number(), number(), number())
		switch n % 4 {
		case 0:
			m.c, m.d = in(0, 0), in(1, 0)
		case 1:
			m.a = m.d.plus(flat(edge(r)))
		}
		if !m.det().zero() {
			seen[wantFloats(t, m)]++
		}
	}
	seen.least(t, 30, "two", "ErrFloat", "NaN", "infinite")
}

func TestFloatsRefuse(t *testing.T) { // P15.3: ErrArg, ErrMoved, ErrFloat, in this order
	for _, m := range wrongMaps() {
		got, e := fixed.Floats(m)
		wantNoList(t, "the floats of what may not be", got, e, api.ErrArg)
	}
	limit := minus(ofInt(twos(1024)), ofInt(twos(970)))
	below := minus(limit, rat(1, 3))
	unit := in(1, 0)
	refused := func(m chart, e api.Errno) {
		t.Helper()
		got, wrong := fixed.Floats(m.mob())
		wantNoList(t, "the floats of "+briefMap(m), got, wrong, e)
		wantFloats(t, m)
		got, wrong = fixed.Floats(m.turned().mob())
		wantNoList(t, "the floats of what turns", got, wrong, api.ErrMoved)
	}
	for _, x := range []*big.Rat{limit, opposite(limit), ofInt(twos(1024)), ofInt(top())} {
		for _, z := range []num{flat(x), {none(), x}, {x, x}} {
			for _, m := range []chart{stretch(z), slide(z), curved(z, unit, in(0, 0)), curved(in(0, 0), z, in(0, 0)), curved(in(0, 0), unit, z), curved(z, z, z)} {
				refused(m, api.ErrFloat)
			}
		}
	}
	// There are floats of all numbers, but none of what a root is asked of.
	refused(curved(flat(below), unit, in(0, 0)), api.ErrFloat)
	refused(curved(in(0, 0), unit, num{none(), below}), api.ErrFloat)
	refused(curved(flat(below), unit, flat(opposite(below))), api.ErrFloat)
	refused(curved(in(0, 0), flat(below), in(0, 0)), api.ErrFloat)
	refused(curved(in(0, 0), flat(ofInt(twos(1022))), in(0, 0)), api.ErrFloat)
	refused(curved(flat(ofInt(twos(512))), unit, in(0, 0)), api.ErrFloat)
	for _, m := range []chart{slide(flat(below)), stretch(flat(below)), curved(flat(ofInt(twos(511))), unit, in(0, 0)), curved(in(0, 0), flat(ofInt(twos(1021))), in(0, 0)), curved(flat(below), unit, flat(below))} {
		if s := wantFloats(t, m); s == "ErrFloat" {
			t.Errorf("%s has no floats", briefMap(m))
		}
	}
	for _, m := range []chart{still(), bar(), third().turned()} {
		got, e := fixed.Floats(m.mob())
		wantNoList(t, "the floats of "+briefMap(m), got, e, api.ErrMoved)
	}
}

func TestFloatsAreNew(t *testing.T) { // P15.3
	for _, m := range []chart{slide(in(1, 0)), third(), stretch(in(2, 0)), charted(3, -1, 1, 1)} {
		first := must[[]api.FPoint](t)(fixed.Floats(m.mob()))
		second := must[[]api.FPoint](t)(fixed.Floats(m.mob()))
		for k := range first[:cap(first)] {
			first[:cap(first)][k] = api.FPoint{Inf: true, Z: 9}
		}
		if wanted, _ := m.floats(); !sameFloats(second, wanted) {
			t.Errorf("the floats of %s: %v, want %v", briefMap(m), second, wanted)
		}
		wantFloats(t, m)
	}
}
