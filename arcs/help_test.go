package arcs_test

import (
	"fmt"
	"iter"
	"math"
	"math/rand"
	"slices"
	"testing"

	"tracery/api"
)

// What these four answer is rounded by itself: Go does not look into them, and so
// can fuse nothing.

//go:noinline
func plus(x, y float64) float64 { return x + y }

//go:noinline
func minus(x, y float64) float64 { return x - y }

//go:noinline
func times(x, y float64) float64 { return x * y }

//go:noinline
func over(x, y float64) float64 { return x / y }

const signBit = 1 << 63

func bits(x float64) uint64 { return math.Float64bits(x) }

func minusNought() float64 { return math.Float64frombits(signBit) }

// loud is a NaN with other bits than math.NaN has, and below 0.
func loud() float64 { return math.Float64frombits(0xfff0000000000001) }

func isNaN(x float64) bool { return bits(x)&^signBit > bits(math.Inf(1)) }

func isFinite(x float64) bool { return bits(x)&^signBit < bits(math.Inf(1)) }

func isNought(x float64) bool { return bits(x)&^signBit == 0 }

func opposite(x float64) float64 { return math.Float64frombits(bits(x) ^ signBit) }

func unsigned(x float64) float64 { return math.Float64frombits(bits(x) &^ signBit) }

// isAbove and isBelow go by the bits: of a NaN and of either nought neither holds.
func isAbove(x float64) bool { return !isNaN(x) && !isNought(x) && bits(x)&signBit == 0 }

func isBelow(x float64) bool { return isAbove(opposite(x)) }

func areFinite(l ...complex128) bool {
	for _, z := range l {
		if !isFinite(real(z)) || !isFinite(imag(z)) {
			return false
		}
	}
	return true
}

// alike, like, likeArcs, likeCircles: by bits, NaNs alike.
func alike(x, y float64) bool { return bits(x) == bits(y) || isNaN(x) && isNaN(y) }

func like(z, w complex128) bool { return alike(real(z), real(w)) && alike(imag(z), imag(w)) }

func likeArcs(a, b api.Arc) bool {
	x, y := partsOf(a), partsOf(b)
	return a.Kind == b.Kind && a.Left == b.Left && slices.EqualFunc(x[:], y[:], alike)
}

func likeCircles(f, g api.FCircle) bool {
	return alike(f.A, g.A) && like(f.B, g.B) && alike(f.C, g.C)
}

// The table of 'How the floats go', and layer 5's words, in the order of their
// brackets.

func sumOf(z, w complex128) complex128 {
	return complex(plus(real(z), real(w)), plus(imag(z), imag(w)))
}

func differenceOf(z, w complex128) complex128 {
	return complex(minus(real(z), real(w)), minus(imag(z), imag(w)))
}

func productOf(z, w complex128) complex128 {
	a, b, c, d := real(z), imag(z), real(w), imag(w)
	return complex(minus(times(a, c), times(b, d)), plus(times(a, d), times(b, c)))
}

func quotientOf(z, w complex128) complex128 {
	a, b, c, d := real(z), imag(z), real(w), imag(w)
	m := squareOf(w)
	return complex(over(plus(times(a, c), times(b, d)), m), over(minus(times(b, c), times(a, d)), m))
}

func conjugateOf(z complex128) complex128 { return complex(real(z), opposite(imag(z))) }

func negativeOf(z complex128) complex128 { return complex(opposite(real(z)), opposite(imag(z))) }

func turnedOf(z complex128) complex128 { return complex(opposite(imag(z)), real(z)) }

func scaledOf(z complex128, r float64) complex128 {
	return complex(times(real(z), r), times(imag(z), r))
}

func squareOf(z complex128) float64 {
	return plus(times(real(z), real(z)), times(imag(z), imag(z)))
}

func crossOf(z, w complex128) float64 {
	return minus(times(real(z), imag(w)), times(imag(z), real(w)))
}

func lengthOf(z complex128) float64 {
	a, b := unsigned(real(z)), unsigned(imag(z))
	inf := math.Inf(1)
	switch {
	case bits(a) == bits(inf) || bits(b) == bits(inf):
		return inf
	case isNaN(a) || isNaN(b):
		return math.NaN()
	case isNought(a) && isNought(b):
		return 0
	}
	if bits(a) < bits(b) {
		a, b = b, a
	}
	q := over(b, a)
	return times(a, math.Sqrt(plus(1, times(q, q))))
}

// Layer 9's and layer 12's words.

// atOf tells where z goes, and whether that is no number.
func atOf(m api.FMob, z complex128) (w complex128, inf bool) {
	if m.Turns {
		z = conjugateOf(z)
	}
	d := sumOf(productOf(m.C, z), m.D)
	if isNought(real(d)) && isNought(imag(d)) {
		return 0, true
	}
	return quotientOf(sumOf(productOf(m.A, z), m.B), d), false
}

func centreOf(f api.FCircle) (complex128, api.Errno) {
	if !areFinite(complex(f.A, 0), f.B) {
		return 0, api.ErrFloat
	}
	if isNought(f.A) {
		return 0, api.ErrZero
	}
	return complex(over(opposite(real(f.B)), f.A), over(imag(f.B), f.A)), api.OK
}

func radiusOf(f api.FCircle) (float64, api.Errno) {
	if !areFinite(complex(f.A, f.C), f.B) {
		return 0, api.ErrFloat
	}
	if isNought(f.A) {
		return 0, api.ErrZero
	}
	power := minus(squareOf(f.B), times(f.A, f.C))
	if isBelow(power) {
		return 0, api.ErrNone
	}
	return over(math.Sqrt(power), unsigned(f.A)), api.OK
}

func circleThrough(p, q, r complex128) (api.FCircle, api.Errno) {
	if !areFinite(p, q, r) {
		return api.FCircle{}, api.ErrFloat
	}
	a, b := differenceOf(q, p), differenceOf(r, p)
	out := api.FCircle{A: crossOf(a, b)}
	g := differenceOf(scaledOf(b, squareOf(a)), scaledOf(a, squareOf(b)))
	e := scaledOf(complex(imag(g), real(g)), -0.5)
	out.B = differenceOf(e, scaledOf(conjugateOf(p), out.A))
	v := real(productOf(e, p))
	out.C = minus(times(out.A, squareOf(p)), plus(v, v))
	if isNought(out.A) && isNought(real(out.B)) && isNought(imag(out.B)) {
		return api.FCircle{}, api.ErrZero
	}
	return out, api.OK
}

func circleImage(m api.FMob, f api.FCircle) api.FCircle {
	p, q, r, s := m.D, negativeOf(m.B), negativeOf(m.C), m.A
	b := f.B
	if m.Turns {
		b = conjugateOf(f.B)
	}
	v := real(productOf(productOf(b, p), conjugateOf(r)))
	a := plus(plus(times(f.A, squareOf(p)), times(f.C, squareOf(r))), plus(v, v))
	v = real(productOf(productOf(b, q), conjugateOf(s)))
	c := plus(plus(times(f.A, squareOf(q)), times(f.C, squareOf(s))), plus(v, v))
	first := sumOf(scaledOf(productOf(p, conjugateOf(q)), f.A), productOf(productOf(b, p), conjugateOf(s)))
	second := sumOf(productOf(productOf(conjugateOf(b), r), conjugateOf(q)), scaledOf(productOf(r, conjugateOf(s)), f.C))
	return circle(a, sumOf(first, second), c)
}

func circle(a float64, b complex128, c float64) api.FCircle { return api.FCircle{A: a, B: b, C: c} }

func straight(p, q complex128) api.Arc { return api.Arc{Kind: api.ArcStraight, From: p, To: q} }

func round(centre complex128, radius float64) api.Arc {
	return api.Arc{Kind: api.ArcRound, Centre: centre, Radius: radius}
}

func bow(p, q, centre complex128, radius float64, left bool) api.Arc {
	return api.Arc{Kind: api.ArcBow, From: p, To: q, Centre: centre, Radius: radius, Left: left}
}

// half is the upper half of the circle about 0.
func half() api.Arc { return bow(1, -1, 0, 1, true) }

func partsOf(a api.Arc) [7]float64 {
	return [7]float64{real(a.From), imag(a.From), real(a.To), imag(a.To), real(a.Centre), imag(a.Centre), a.Radius}
}

func withPart(a api.Arc, k int, x float64) api.Arc {
	l := partsOf(a)
	l[k] = x
	a.From, a.To, a.Centre, a.Radius = complex(l[0], l[1]), complex(l[2], l[3]), complex(l[4], l[5]), l[6]
	return a
}

// Maps.

func mapped(a, b, c, d complex128) api.FMob { return api.FMob{A: a, B: b, C: c, D: d} }

func still() api.FMob { return mapped(1, 0, 0, 1) }

func upsideDown() api.FMob { return mapped(0, 1, 1, 0) }

func turning(m api.FMob) api.FMob {
	m.Turns = true
	return m
}

// wrongMaps have a NaN or an infinity in one part of one number.
func wrongMaps() []api.FMob {
	var l []api.FMob
	for _, x := range []float64{math.NaN(), loud(), math.Inf(1), math.Inf(-1)} {
		for _, z := range []complex128{complex(x, 0), complex(1, x)} {
			for _, m := range []api.FMob{still(), upsideDown(), turning(mapped(1, 2, 3, 4))} {
				a, b, c, d := m, m, m, m
				a.A, b.B, c.C, d.D = z, z, z, z
				l = append(l, a, b, c, d)
			}
		}
	}
	return l
}

// edgeFloats: both noughts, subnormal ones, such whose products overflow or get
// too small, infinities, NaNs of either sign.
func edgeFloats() []float64 {
	l := []float64{
		0, 0x1p-1074, 0x3p-1074, 0x0.fffffffffffffp-1022, 0x1p-1022, 0x1.8p-538, 0x1p-537, 0x1p-52, 0.1, 0.5, 1, 1 + 0x1p-52, 3, 0x1p511, 0x1.8p512, 1e300, 0x1p1023, math.MaxFloat64, math.Inf(1), math.NaN(), loud(),
	}
	for _, x := range l {
		l = append(l, opposite(x))
	}
	return l
}

func anyBits(r *rand.Rand) float64 { return math.Float64frombits(r.Uint64()) }

// few: a float of few bits, so that exact answers and noughts are common.
func few(r *rand.Rand) float64 {
	x := math.Ldexp(float64(r.Intn(7)), r.Intn(3)-1)
	if r.Intn(2) == 0 {
		return opposite(x)
	}
	return x
}

// usual: a float of a magnitude about 1, all of whose bits are at hand.
func usual(r *rand.Rand) float64 { return math.Ldexp(r.Float64()-0.5, r.Intn(9)-4) }

// wide: a float of any magnitude that is finite.
func wide(r *rand.Rand) float64 {
	for {
		if x := anyBits(r); isFinite(x) {
			return x
		}
	}
}

type chooser func(r *rand.Rand) float64

// kinds are ways to choose a part; the first four are of finite ones.
func kinds() []chooser {
	edges := edgeFloats()
	edge := func(r *rand.Rand) float64 { return edges[r.Intn(len(edges))] }
	finite := func(r *rand.Rand) float64 {
		for {
			if x := edge(r); isFinite(x) {
				return x
			}
		}
	}
	return []chooser{few, usual, wide, finite, edge, anyBits, func(r *rand.Rand) float64 {
		if r.Intn(4) == 0 {
			return edge(r)
		}
		return few(r)
	}}
}

func finiteKinds() []chooser { return kinds()[:4] }

func (part chooser) number(r *rand.Rand) complex128 { return complex(part(r), part(r)) }

func (part chooser) circle(r *rand.Rand) api.FCircle {
	return circle(part(r), part.number(r), part(r))
}

func (part chooser) mapping(r *rand.Rand) api.FMob {
	return api.FMob{A: part.number(r), B: part.number(r), C: part.number(r), D: part.number(r), Turns: r.Intn(2) == 0}
}

// arc is one of the three kinds; of finite parts it may be.
func (part chooser) arc(r *rand.Rand) api.Arc {
	radius := part(r)
	for isNought(radius) {
		radius = part(r)
	}
	radius = unsigned(radius)
	switch r.Intn(4) {
	case 0:
		return straight(part.number(r), part.number(r))
	case 1:
		return round(part.number(r), radius)
	case 2:
		return bow(part.number(r), part.number(r), part.number(r), radius, r.Intn(2) == 0)
	}
	if a, e := arcThrough(part.number(r), part.number(r), part.number(r)); e == api.OK {
		return a
	}
	return part.arc(r)
}

// goodArcs are those of the examples, and such with an edge at one place.
func goodArcs() []api.Arc {
	n := minusNought()
	l := []api.Arc{
		half(), bow(1, -1, 0, 1, false), straight(0, 2), straight(complex(n, n), 0), straight(1, 1), round(1, 2), round(complex(n, n), 1),
		bow(1, 1, 0, 1, true), bow(0, complex(n, 0), 1, 1, false), bow(5, 7i, 3-2i, 9, true), bow(1i, 2, 0, 0x1p-1074, false),
	}
	for _, a := range slices.Clone(l) {
		for k := range 7 {
			for _, x := range edgeFloats() {
				if b := withPart(a, k, x); mayBeOf(b) {
					l = append(l, b)
				}
			}
		}
	}
	return l
}

// wrongArcs may not be: of no kind, with something in a field that the kind does
// not name, with a number that is not finite, with a radius that is none.
func wrongArcs() []api.Arc {
	var l []api.Arc
	for _, a := range []api.Arc{straight(1, 2i), round(1, 2), half()} {
		for _, kind := range []api.ArcKind{0, 4, 5, -1, -3, math.MinInt, math.MaxInt, 1 << 32, 1<<32 + 1, 1<<32 + 2, 1<<32 + 3} {
			b := a
			b.Kind = kind
			l = append(l, b)
		}
		for k := range 7 {
			for _, x := range edgeFloats() {
				if b := withPart(a, k, x); !mayBeOf(b) {
					l = append(l, b)
				}
			}
		}
		a.Left = true
		if a.Kind != api.ArcBow {
			l = append(l, a)
		}
	}
	return append(l, api.Arc{}, api.Arc{Kind: api.ArcRound}, api.Arc{Kind: api.ArcBow}, api.Arc{Kind: api.ArcStraight, Left: true})
}

// arcsOf goes over good arcs, and over many more that may be.
func arcsOf(seed int64, each int, do func(a api.Arc)) {
	for _, a := range goodArcs() {
		do(a)
	}
	r := rand.New(rand.NewSource(seed))
	for _, part := range finiteKinds() {
		for range each {
			do(part.arc(r))
		}
	}
}

// tally counts how often each error came up, so that a test can tell that it asked.
type tally map[api.Errno]int

func (l tally) want(t *testing.T, least int, all ...api.Errno) {
	t.Helper()
	for _, e := range all {
		if l[e] < least {
			t.Errorf("%v came up only %d times", e, l[e])
		}
	}
}

func wantArc(t *testing.T, what string, got api.Arc, e api.Errno, want api.Arc, wantE api.Errno) {
	t.Helper()
	if e != wantE || !likeArcs(got, want) {
		t.Fatalf("%s: %v, %v, not %v, %v", what, got, e, want, wantE)
	}
}

func wantNumber(t *testing.T, what string, got complex128, e api.Errno, want complex128, wantE api.Errno) {
	t.Helper()
	if e != wantE || !like(got, want) {
		t.Fatalf("%s: %v, %v, not %v, %v", what, got, e, want, wantE)
	}
}

func wantArcs(t *testing.T, what string, got []api.Arc, e api.Errno, want []api.Arc, wantE api.Errno) {
	t.Helper()
	if e != wantE || !slices.EqualFunc(got, want, likeArcs) {
		t.Fatalf("%s: %v, %v, not %v, %v", what, got, e, want, wantE)
	}
}

func many(a api.Arc, n int) []api.Arc { return slices.Repeat([]api.Arc{a}, n) }

// gather takes up to so many (all, if below 0), and asks whether they are numbered
// from 0 on.
func gather(t *testing.T, s iter.Seq2[int, complex128], most int) []complex128 {
	t.Helper()
	var l []complex128
	if most == 0 {
		return l
	}
	for k, z := range s {
		if k != len(l) {
			t.Fatalf("the number %d at the place %d", k, len(l))
		}
		l = append(l, z)
		if len(l) == most {
			break
		}
	}
	return l
}

func told(what string, l ...any) string { return fmt.Sprint(append([]any{what, " of "}, l...)...) }
