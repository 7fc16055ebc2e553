package fcirc_test

import (
	"math"
	"math/big"
	"math/rand"
	"strings"
	"testing"

	"tracery/api"
)

// What these four answer is rounded by itself: Go does not look into them, and so
// can fuse nothing.

//go:noinline
func plus(x, y float64) float64 { return x + y }

//go:noinline
func minus(x, y float64) float64 { return x - y }

//go:noinline
func times(x, y float64) float64 { return x * y }

//go:noinline
func over(x, y float64) float64 { return x / y }

const signBit = 1 << 63

func bits(x float64) uint64 { return math.Float64bits(x) }

func minusNought() float64 { return math.Float64frombits(signBit) }

// loud is a NaN with other bits than math.NaN has, and below 0.
func loud() float64 { return math.Float64frombits(0xfff0000000000001) }

func isNaN(x float64) bool { return bits(x)&^signBit > bits(math.Inf(1)) }

func isFinite(x float64) bool { return bits(x)&^signBit < bits(math.Inf(1)) }

func opposite(x float64) float64 { return math.Float64frombits(bits(x) ^ signBit) }

// isNought goes by the bits: of either sign.
func isNought(x float64) bool { return bits(x)&^signBit == 0 }

// alike, like and likeCircles: by bits, NaNs alike.
func alike(x, y float64) bool { return bits(x) == bits(y) || isNaN(x) && isNaN(y) }

func like(z, w complex128) bool { return alike(real(z), real(w)) && alike(imag(z), imag(w)) }

func likeCircles(f, g api.FCircle) bool {
	return alike(f.A, g.A) && like(f.B, g.B) && alike(f.C, g.C)
}

func wantFloat(t *testing.T, what string, got, want float64) {
	t.Helper()
	if !alike(got, want) {
		t.Fatalf("%s: %v, not %v", what, got, want)
	}
}

func wantCircle(t *testing.T, what string, got, want api.FCircle) {
	t.Helper()
	if !likeCircles(got, want) {
		t.Fatalf("%s: %v, not %v", what, got, want)
	}
}

// The table of 'How the floats go', and layer 5's words, in the order of their
// brackets.

func sumOf(z, w complex128) complex128 {
	return complex(plus(real(z), real(w)), plus(imag(z), imag(w)))
}

func differenceOf(z, w complex128) complex128 {
	return complex(minus(real(z), real(w)), minus(imag(z), imag(w)))
}

func productOf(z, w complex128) complex128 {
	a, b, c, d := real(z), imag(z), real(w), imag(w)
	return complex(minus(times(a, c), times(b, d)), plus(times(a, d), times(b, c)))
}

func conjugateOf(z complex128) complex128 { return complex(real(z), opposite(imag(z))) }

func negativeOf(z complex128) complex128 { return complex(opposite(real(z)), opposite(imag(z))) }

func scaledOf(z complex128, r float64) complex128 {
	return complex(times(real(z), r), times(imag(z), r))
}

func squareOf(z complex128) float64 {
	return plus(times(real(z), real(z)), times(imag(z), imag(z)))
}

func crossOf(z, w complex128) float64 {
	return minus(times(real(z), imag(w)), times(imag(z), real(w)))
}

func circle(a float64, b complex128, c float64) api.FCircle { return api.FCircle{A: a, B: b, C: c} }

func unit() api.FCircle { return circle(1, 0, -1) }

func partsOf(f api.FCircle) [4]float64 { return [4]float64{f.A, real(f.B), imag(f.B), f.C} }

func fromParts(l [4]float64) api.FCircle { return circle(l[0], complex(l[1], l[2]), l[3]) }

// finiteUpTo asks the first so many parts: three are A and B, four are all.
func finiteUpTo(f api.FCircle, n int) bool {
	l := partsOf(f)
	for _, x := range l[:n] {
		if !isFinite(x) {
			return false
		}
	}
	return true
}

// edgeFloats: both noughts, subnormal ones, such whose products overflow or get
// too small, infinities, NaNs of either sign.
func edgeFloats() []float64 {
	l := []float64{
		0, 0x1p-1074, 0x3p-1074, 0x0.fffffffffffffp-1022, 0x1p-1022, 0x1.8p-538, 0x1p-537, 0x1p-52, 0.1, 0.5, 1, 1 + 0x1p-52, 3, 0x1p511, 0x1.8p512, 1e300, 0x1p1023, math.MaxFloat64, math.Inf(1), math.NaN(),
	}
	for _, x := range l {
		l = append(l, opposite(x))
	}
	return l
}

func anyBits(r *rand.Rand) float64 { return math.Float64frombits(r.Uint64()) }

// few: a float of few bits, so that exact answers and noughts are common.
func few(r *rand.Rand) float64 {
	x := math.Ldexp(float64(r.Intn(7)), r.Intn(3)-1)
	if r.Intn(2) == 0 {
		return opposite(x)
	}
	return x
}

// usual: a float of a magnitude about 1, all of whose bits are at hand.
func usual(r *rand.Rand) float64 { return math.Ldexp(r.Float64()-0.5, r.Intn(9)-4) }

// kinds are ways to choose a part; the first three are of finite ones.
func kinds() []func(r *rand.Rand) float64 {
	edges := edgeFloats()
	edge := func(r *rand.Rand) float64 { return edges[r.Intn(len(edges))] }
	finite := func(r *rand.Rand) float64 {
		for {
			if x := edge(r); isFinite(x) {
				return x
			}
		}
	}
	return []func(r *rand.Rand) float64{few, usual, finite, edge, anyBits, func(r *rand.Rand) float64 {
		if r.Intn(4) == 0 {
			return edge(r)
		}
		return few(r)
	}}
}

func numberOf(r *rand.Rand, part func(r *rand.Rand) float64) complex128 {
	return complex(part(r), part(r))
}

func circleOf(r *rand.Rand, part func(r *rand.Rand) float64) api.FCircle {
	return circle(part(r), numberOf(r, part), part(r))
}

func mapOf(r *rand.Rand, part func(r *rand.Rand) float64) api.FMob {
	return api.FMob{A: numberOf(r, part), B: numberOf(r, part), C: numberOf(r, part), D: numberOf(r, part), Turns: r.Intn(2) == 0}
}

// namedCircles are those of the examples, and one edge at each place of a circle
// and of a line.
func namedCircles() []api.FCircle {
	n := minusNought()
	l := []api.FCircle{
		unit(), {}, circle(n, complex(n, n), n), circle(1, 0, 1), circle(0, 1, 0), circle(n, 1i, 0), circle(2, 0, -2), circle(-2, 1-3i, 5), circle(1, -3-4i, 21), circle(-1, 3+4i, -25),
		// Powers that are 0, an infinity and, of finite numbers, a NaN.
		circle(1, 0, 0), circle(4, 6i, 9), circle(1, 0x1p600, 1), circle(0x1p600, 0x1p600, 0x1p600), circle(0x1p600, 1, -0x1p600), circle(0x1p600, 1, 0x1p600),
		circle(0x1p-600, 0, -0x1p-600), circle(0x1p-1074, 0x1p-1074, 0x1p-1074),
	}
	for _, x := range edgeFloats() {
		for _, f := range []api.FCircle{unit(), circle(0, 1, 2), circle(-3, 1+2i, 1)} {
			for k := range 4 {
				parts := partsOf(f)
				parts[k] = x
				l = append(l, fromParts(parts))
			}
		}
		l = append(l, circle(x, complex(x, x), x), circle(x, complex(x, x), opposite(x)))
	}
	return l
}

func namedNumbers() []complex128 {
	l := []complex128{2, 0.5, 1i, -1i, 1 + 2i, -3 - 4i, 0.6 + 0.8i}
	for _, x := range edgeFloats() {
		l = append(l, complex(x, 0), complex(minusNought(), x), complex(x, x), complex(1, x))
	}
	return l
}

// circles goes over the named ones, and over many more.
func circles(do func(f api.FCircle)) {
	for _, f := range namedCircles() {
		do(f)
	}
	r := rand.New(rand.NewSource(121))
	for _, part := range kinds() {
		for range 20000 {
			do(circleOf(r, part))
		}
	}
}

func circlesAndNumbers(do func(f api.FCircle, z complex128)) {
	for _, f := range namedCircles() {
		for _, z := range namedNumbers() {
			do(f, z)
		}
	}
	r := rand.New(rand.NewSource(122))
	for _, part := range kinds() {
		for range 20000 {
			do(circleOf(r, part), numberOf(r, part))
		}
	}
}

// Exact numbers go by the document's words and math/big, not by other layers.

func whole(n *big.Int) api.Whole { return api.Whole{Neg: n.Sign() < 0, Mag: string(n.Bytes())} }

func fraction(x *big.Rat) api.Frac { return api.Frac{Num: whole(x.Num()), Den: whole(x.Denom())} }

func ratio(n, d int64) *big.Rat { return big.NewRat(n, d) }

func none() *big.Rat { return new(big.Rat) }

// twos is 2 to the power n, exactly.
func twos(n int) *big.Rat {
	power := new(big.Rat).SetInt(new(big.Int).Lsh(big.NewInt(1), uint(max(n, -n))))
	if n < 0 {
		power.Inv(power)
	}
	return power
}

func exactly(x float64) *big.Rat { return new(big.Rat).SetFloat64(x) }

// ring is a circle's four fractions.
type ring struct{ a, re, im, c *big.Rat }

func ringed(a, re, im, c int64) ring {
	return ring{ratio(a, 1), ratio(re, 1), ratio(im, 1), ratio(c, 1)}
}

func (k ring) circle() api.Circle {
	return api.Circle{A: fraction(k.a), B: api.Gauss{Re: fraction(k.re), Im: fraction(k.im)}, C: fraction(k.c)}
}

// mayBe: its form is right, and its power above 0.
func (k ring) mayBe() bool {
	power := new(big.Rat).Mul(k.re, k.re)
	power.Add(power, new(big.Rat).Mul(k.im, k.im))
	power.Sub(power, new(big.Rat).Mul(k.a, k.c))
	first := k.a
	for _, x := range []*big.Rat{k.re, k.im} {
		if first.Sign() == 0 {
			first = x
		}
	}
	return power.Sign() > 0 && first.Cmp(ratio(1, 1)) == 0
}

// wrongCircles may not be: out of form, of one point or of none, or of numbers
// that may not be.
func wrongCircles() []api.Circle {
	l := []api.Circle{{}}
	for _, k := range []ring{
		ringed(2, 0, 0, -2), ringed(-1, 0, 0, 1), ringed(0, 2, 0, 0), ringed(0, -1, 0, 0), ringed(0, 0, 3, 1), ringed(0, 2, 1, 0), ringed(0, -1, 1, 5),
		ringed(1, 0, 0, 1), ringed(1, 0, 0, 0), ringed(1, 3, 4, 25), ringed(1, 3, 4, 26), ringed(0, 0, 0, 0), ringed(0, 0, 0, -5),
		{ratio(1, 2), ratio(1, 1), none(), none()},
	} {
		l = append(l, k.circle())
	}
	one := whole(big.NewInt(1))
	past := api.Whole{Mag: "\x01" + strings.Repeat("\x00", api.MaxWhole)}
	for _, x := range []api.Frac{
		{}, {Num: past, Den: one}, {Num: one, Den: past}, {Num: one, Den: api.Whole{Neg: true, Mag: "\x02"}}, {Num: one},
		{Num: api.Whole{Mag: "\x06"}, Den: api.Whole{Mag: "\x04"}}, {Num: api.Whole{Neg: true}, Den: one}, {Num: api.Whole{Mag: "\x00\x01"}, Den: one},
	} {
		for _, c := range []api.Circle{ringed(1, 0, 0, -1).circle(), ringed(0, 0, 1, 0).circle(), ringed(0, 1, 0, 2).circle()} {
			a, re, im, k := c, c, c, c
			a.A, re.B.Re, im.B.Im, k.C = x, x, x, x
			l = append(l, a, re, im, k)
		}
	}
	return l
}
