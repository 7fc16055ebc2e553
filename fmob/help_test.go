package fmob_test

import (
	"math"
	"math/big"
	"math/rand"
	"strings"
	"testing"

	"tracery/api"
)

// What these four answer is rounded by itself: Go does not look into them, and so
// can fuse nothing.

//go:noinline
func plus(x, y float64) float64 { return x + y }

//go:noinline
func minus(x, y float64) float64 { return x - y }

//go:noinline
func times(x, y float64) float64 { return x * y }

//go:noinline
func over(x, y float64) float64 { return x / y }

const signBit = 1 << 63

func bits(x float64) uint64 { return math.Float64bits(x) }

func minusNought() float64 { return math.Float64frombits(signBit) }

func isNaN(x float64) bool { return bits(x)&^signBit > bits(math.Inf(1)) }

func isFinite(x float64) bool { return bits(x)&^signBit < bits(math.Inf(1)) }

func opposite(x float64) float64 { return math.Float64frombits(bits(x) ^ signBit) }

// alike, like, likePoints and likeMaps: by bits, NaNs alike.
func alike(x, y float64) bool { return bits(x) == bits(y) || isNaN(x) && isNaN(y) }

func like(z, w complex128) bool { return alike(real(z), real(w)) && alike(imag(z), imag(w)) }

func likePoints(p, q api.FPoint) bool { return p.Inf == q.Inf && like(p.Z, q.Z) }

func likeMaps(f, g api.FMob) bool {
	return like(f.A, g.A) && like(f.B, g.B) && like(f.C, g.C) && like(f.D, g.D) && f.Turns == g.Turns
}

func wantNumber(t *testing.T, what string, got, want complex128) {
	t.Helper()
	if !like(got, want) {
		t.Fatalf("%s: %v, not %v", what, got, want)
	}
}

func wantPoint(t *testing.T, what string, got, want api.FPoint) {
	t.Helper()
	if !likePoints(got, want) {
		t.Fatalf("%s: %v, not %v", what, got, want)
	}
}

func wantMap(t *testing.T, what string, got, want api.FMob) {
	t.Helper()
	if !likeMaps(got, want) {
		t.Fatalf("%s: %v, not %v", what, got, want)
	}
}

func wantErrno(t *testing.T, what string, f api.FMob, got, want api.Errno) {
	t.Helper()
	if got != want || !likeMaps(f, api.FMob{}) {
		t.Fatalf("%s: %v, %v, not %v and nothing", what, f, got, want)
	}
}

// The table of 'How the floats go', in the order of its brackets.

func sumOf(z, w complex128) complex128 {
	return complex(plus(real(z), real(w)), plus(imag(z), imag(w)))
}

func differenceOf(z, w complex128) complex128 {
	return complex(minus(real(z), real(w)), minus(imag(z), imag(w)))
}

func productOf(z, w complex128) complex128 {
	a, b, c, d := real(z), imag(z), real(w), imag(w)
	return complex(minus(times(a, c), times(b, d)), plus(times(a, d), times(b, c)))
}

func quotientOf(z, w complex128) complex128 {
	a, b, c, d := real(z), imag(z), real(w), imag(w)
	m := plus(times(c, c), times(d, d))
	return complex(over(plus(times(a, c), times(b, d)), m), over(minus(times(b, c), times(a, d)), m))
}

func conjugateOf(z complex128) complex128 { return complex(real(z), opposite(imag(z))) }

func negativeOf(z complex128) complex128 { return complex(opposite(real(z)), opposite(imag(z))) }

// isNought goes by the bits: of either sign.
func isNought(z complex128) bool {
	return bits(real(z))&^signBit == 0 && bits(imag(z))&^signBit == 0
}

func infinity() api.FPoint { return api.FPoint{Inf: true} }

func at(z complex128) api.FPoint { return api.FPoint{Z: z} }

func plain(a, b, c, d complex128) api.FMob { return api.FMob{A: a, B: b, C: c, D: d} }

func turning(a, b, c, d complex128) api.FMob { return api.FMob{A: a, B: b, C: c, D: d, Turns: true} }

// edgeFloats: both noughts, subnormal ones, such whose products overflow or get
// too small, infinities, NaNs of either sign.
func edgeFloats() []float64 {
	l := []float64{
		0, 0x1p-1074, 0x3p-1074, 0x0.fffffffffffffp-1022, 0x1p-1022, 0x1.8p-538, 0x1p-537, 0x1p-52, 0.1, 0.5, 1, 1 + 0x1p-52, 3, 0x1p511, 0x1.8p512, 1e300, 0x1p1023, math.MaxFloat64, math.Inf(1), math.NaN(),
	}
	for _, x := range l {
		l = append(l, opposite(x))
	}
	return l
}

func anyBits(r *rand.Rand) float64 { return math.Float64frombits(r.Uint64()) }

// few: a float of few bits, so that exact answers and noughts are common.
func few(r *rand.Rand) float64 {
	x := math.Ldexp(float64(r.Intn(7)), r.Intn(3)-1)
	if r.Intn(2) == 0 {
		return opposite(x)
	}
	return x
}

// usual: a float of a magnitude about 1, all of whose bits are at hand.
func usual(r *rand.Rand) float64 { return math.Ldexp(r.Float64()-0.5, r.Intn(9)-4) }

// kinds are ways to choose a part; the first three are of finite ones.
func kinds() []func(r *rand.Rand) float64 {
	edges := edgeFloats()
	edge := func(r *rand.Rand) float64 { return edges[r.Intn(len(edges))] }
	finite := func(r *rand.Rand) float64 {
		for {
			if x := edge(r); isFinite(x) {
				return x
			}
		}
	}
	return []func(r *rand.Rand) float64{few, usual, finite, edge, anyBits, func(r *rand.Rand) float64 {
		if r.Intn(4) == 0 {
			return edge(r)
		}
		return few(r)
	}}
}

func numberOf(r *rand.Rand, part func(r *rand.Rand) float64) complex128 {
	return complex(part(r), part(r))
}

func mapOf(r *rand.Rand, part func(r *rand.Rand) float64) api.FMob {
	return api.FMob{A: numberOf(r, part), B: numberOf(r, part), C: numberOf(r, part), D: numberOf(r, part), Turns: r.Intn(2) == 0}
}

// pointOf: now and then infinity, with a Z of any kind.
func pointOf(r *rand.Rand, part func(r *rand.Rand) float64) api.FPoint {
	return api.FPoint{Inf: r.Intn(8) == 0, Z: numberOf(r, part)}
}

// namedMaps are those of the examples, and such as divide by noughts of any signs.
func namedMaps() []api.FMob {
	n := minusNought()
	l := []api.FMob{
		plain(1, 1i, 0, 1), plain(0, 1, 1, 0), turning(1, 0, 0, 1), plain(1, 0, 0, 1), plain(6, 0, 0, 1), {}, {Turns: true},
		plain(complex(n, n), complex(n, n), complex(n, n), complex(n, n)),
		plain(1, 2, complex(n, 0), 1), turning(1, 2, complex(0, n), 1), plain(1, 2, complex(n, n), complex(0, n)),
		plain(1, -1, 1, -1), plain(0, 0, 1, 0), turning(2i, 1, 1, 1i), plain(2i, 1, 1, 1i),
	}
	for _, x := range []float64{math.NaN(), math.Inf(1), math.Inf(-1), 1e300, 0x1p-1074} {
		l = append(l,
			plain(complex(x, 0), 1, 0, 1), plain(1, complex(0, x), 0, 1), turning(1, 1, complex(x, 0), 1), plain(1, 1, complex(0, x), 0),
			turning(1, 0, 0, complex(x, x)), plain(complex(x, x), complex(x, x), complex(x, x), complex(x, x)))
	}
	return l
}

func namedPoints() []api.FPoint {
	l := []api.FPoint{infinity(), {Inf: true, Z: 3 - 1i}, {Inf: true, Z: complex(math.NaN(), minusNought())}}
	for _, x := range edgeFloats() {
		l = append(l, at(complex(x, 0)), at(complex(minusNought(), x)), at(complex(x, x)), at(complex(1, x)))
	}
	return append(l, at(1+2i), at(-1i), at(1i), at(2), at(-1))
}

// mapsAndPoints goes over all of the named ones together, and over many more.
func mapsAndPoints(do func(f api.FMob, p api.FPoint)) {
	for _, f := range namedMaps() {
		for _, p := range namedPoints() {
			do(f, p)
		}
	}
	r := rand.New(rand.NewSource(91))
	for _, part := range kinds() {
		for range 20000 {
			do(mapOf(r, part), pointOf(r, part))
		}
		for range 1000 { // at the pole, as far as floats tell it
			f, p := mapOf(r, part), at(numberOf(r, part))
			w := p.Z
			if f.Turns {
				w = conjugateOf(w)
			}
			f.D = negativeOf(productOf(f.C, w))
			do(f, p)
		}
	}
}

func maps(do func(f api.FMob)) {
	for _, f := range namedMaps() {
		do(f)
	}
	r := rand.New(rand.NewSource(92))
	for _, part := range kinds() {
		for range 10000 {
			do(mapOf(r, part))
		}
	}
}

func pairsOfMaps(do func(f, g api.FMob)) {
	for _, f := range namedMaps() {
		for _, g := range namedMaps() {
			do(f, g)
		}
	}
	r := rand.New(rand.NewSource(93))
	for _, part := range kinds() {
		for range 10000 {
			do(mapOf(r, part), mapOf(r, part))
		}
	}
}

func partsOf(f api.FMob) [8]float64 {
	return [8]float64{real(f.A), imag(f.A), real(f.B), imag(f.B), real(f.C), imag(f.C), real(f.D), imag(f.D)}
}

func fromParts(l [8]float64, turns bool) api.FMob {
	return api.FMob{A: complex(l[0], l[1]), B: complex(l[2], l[3]), C: complex(l[4], l[5]), D: complex(l[6], l[7]), Turns: turns}
}

func mayBe(f api.FMob) bool {
	for _, x := range partsOf(f) {
		if !isFinite(x) {
			return false
		}
	}
	return true
}

// twos is 2 to the power n, exactly.
func twos(n int) *big.Rat {
	power := new(big.Rat).SetInt(new(big.Int).Lsh(big.NewInt(1), uint(max(n, -n))))
	if n < 0 {
		power.Inv(power)
	}
	return power
}

func exactly(x float64) *big.Rat { return new(big.Rat).SetFloat64(x) }

// Exact numbers go by the document's words and math/big, not by other layers.

func whole(n *big.Int) api.Whole { return api.Whole{Neg: n.Sign() < 0, Mag: string(n.Bytes())} }

func fraction(x *big.Rat) api.Frac { return api.Frac{Num: whole(x.Num()), Den: whole(x.Denom())} }

func ratOf(x api.Frac) *big.Rat {
	num := new(big.Int).SetBytes([]byte(x.Num.Mag))
	if x.Num.Neg {
		num.Neg(num)
	}
	return new(big.Rat).SetFrac(num, new(big.Int).SetBytes([]byte(x.Den.Mag)))
}

func exact(re, im *big.Rat) api.Gauss { return api.Gauss{Re: fraction(re), Im: fraction(im)} }

func small(re, im int64) api.Gauss { return exact(big.NewRat(re, 1), big.NewRat(im, 1)) }

func exactMap(a, b, c, d api.Gauss) api.Mob { return api.Mob{A: a, B: b, C: c, D: d} }

// wrongMaps may not be: out of form, flat, or of numbers that may not be.
func wrongMaps() []api.Mob {
	o, i := small(0, 0), small(1, 0)
	l := []api.Mob{
		{}, {Turns: true}, exactMap(o, o, o, o), exactMap(i, o, o, small(2, 0)), exactMap(o, i, small(2, 0), o),
		exactMap(i, i, i, i), exactMap(o, i, o, i), exactMap(small(2, 4), o, i, o), exactMap(small(0, 2), small(-4, 2), i, small(1, 2)),
	}
	past := api.Whole{Mag: "\x01" + strings.Repeat("\x00", api.MaxWhole)}
	for _, x := range []api.Frac{
		{}, {Num: past, Den: i.Re.Num}, {Num: i.Re.Num, Den: past}, {Num: i.Re.Num, Den: api.Whole{Neg: true, Mag: "\x02"}},
		{Num: api.Whole{Mag: "\x06"}, Den: api.Whole{Mag: "\x04"}}, {Num: api.Whole{Neg: true}, Den: i.Re.Num}, {Num: api.Whole{Mag: "\x00\x01"}, Den: i.Re.Num},
	} {
		for _, z := range []api.Gauss{{Re: x, Im: o.Re}, {Re: i.Re, Im: x}} {
			l = append(l, exactMap(z, i, i, o), exactMap(i, z, o, i), exactMap(i, o, z, i), exactMap(o, i, i, z), exactMap(i, o, o, z))
		}
	}
	return l
}
