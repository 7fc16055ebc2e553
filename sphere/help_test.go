package sphere_test

import (
	"math/big"
	"math/rand"
	"strings"
	"testing"

	"tracery/api"
)

type ofOne = func(p api.Point) (api.Point, api.Errno)

// whole, bigOf, fraction and ratOf go by the document's words and math/big, not
// by the packages that are tested.
func whole(n *big.Int) api.Whole { return api.Whole{Neg: n.Sign() < 0, Mag: string(n.Bytes())} }

func small(n int64) api.Whole { return whole(big.NewInt(n)) }

func bigOf(a api.Whole) *big.Int {
	n := new(big.Int).SetBytes([]byte(a.Mag))
	if a.Neg {
		n.Neg(n)
	}
	return n
}

func fraction(r *big.Rat) api.Frac { return api.Frac{Num: whole(r.Num()), Den: whole(r.Denom())} }

func over(num, den int64) api.Frac { return fraction(big.NewRat(num, den)) }

func ratOf(x api.Frac) *big.Rat { return new(big.Rat).SetFrac(bigOf(x.Num), bigOf(x.Den)) }

func fits(l ...*big.Rat) bool {
	for _, x := range l {
		if len(x.Num().Bytes()) > api.MaxWhole || len(x.Denom().Bytes()) > api.MaxWhole {
			return false
		}
	}
	return true
}

func plus(x, y *big.Rat) *big.Rat { return new(big.Rat).Add(x, y) }

func minus(x, y *big.Rat) *big.Rat { return new(big.Rat).Sub(x, y) }

func times(x, y *big.Rat) *big.Rat { return new(big.Rat).Mul(x, y) }

func quo(x, y *big.Rat) *big.Rat { return new(big.Rat).Quo(x, y) }

func opposite(x *big.Rat) *big.Rat { return new(big.Rat).Neg(x) }

func ofInt(n *big.Int) *big.Rat { return new(big.Rat).SetInt(n) }

// twos is 2 to the power n.
func twos(n uint) *big.Int { return new(big.Int).Lsh(big.NewInt(1), n) }

// spot is a point by math/big.
type spot struct {
	inf    bool
	re, im *big.Rat
}

func spotOf(p api.Point) spot {
	if p.Inf {
		return far()
	}
	return spot{re: ratOf(p.Z.Re), im: ratOf(p.Z.Im)}
}

func far() spot { return spot{inf: true} }

func at(re, im *big.Rat) spot { return spot{re: re, im: im} }

func short(re, im int64) spot { return at(big.NewRat(re, 1), big.NewRat(im, 1)) }

func (z spot) point() api.Point {
	if z.inf {
		return api.Point{Inf: true}
	}
	return api.Point{Z: api.Gauss{Re: fraction(z.re), Im: fraction(z.im)}}
}

func pointsOf(l []spot) []api.Point {
	var out []api.Point
	for _, z := range l {
		out = append(out, z.point())
	}
	return out
}

func spotsOf(l []api.Point) []spot {
	var out []spot
	for _, p := range l {
		out = append(out, spotOf(p))
	}
	return out
}

func (z spot) fits() bool { return z.inf || fits(z.re, z.im) }

func (z spot) zero() bool { return !z.inf && z.re.Sign() == 0 && z.im.Sign() == 0 }

func (z spot) norm() *big.Rat { return plus(times(z.re, z.re), times(z.im, z.im)) }

func (z spot) neg() spot {
	if z.inf {
		return z
	}
	return at(opposite(z.re), opposite(z.im))
}

func (z spot) conj() spot {
	if z.inf {
		return z
	}
	return at(z.re, opposite(z.im))
}

func (z spot) inverse() spot {
	switch {
	case z.inf:
		return short(0, 0)
	case z.zero():
		return far()
	}
	return at(quo(z.re, z.norm()), quo(opposite(z.im), z.norm()))
}

func (z spot) across() spot { return z.conj().inverse().neg() }

// chord goes by the chapter's three formulas.
func (z spot) chord(w spot) *big.Rat {
	one, four := big.NewRat(1, 1), big.NewRat(4, 1)
	switch {
	case z.inf && w.inf:
		return new(big.Rat)
	case z.inf:
		return quo(four, plus(w.norm(), one))
	case w.inf:
		return quo(four, plus(z.norm(), one))
	}
	apart := at(minus(z.re, w.re), minus(z.im, w.im)).norm()
	return quo(times(four, apart), times(plus(z.norm(), one), plus(w.norm(), one)))
}

func (z spot) lift() [3]*big.Rat {
	one, two := big.NewRat(1, 1), big.NewRat(2, 1)
	if z.inf {
		return [3]*big.Rat{new(big.Rat), new(big.Rat), one}
	}
	m := plus(z.norm(), one)
	return [3]*big.Rat{quo(times(two, z.re), m), quo(times(two, z.im), m), quo(minus(z.norm(), one), m)}
}

func coordinates(l [3]*big.Rat) [3]api.Frac {
	return [3]api.Frac{fraction(l[0]), fraction(l[1]), fraction(l[2])}
}

// top is the greatest number of a fraction, 256 to the power 1024 less 1; past
// is the next one.
func top() api.Whole { return api.Whole{Mag: strings.Repeat("\xff", api.MaxWhole)} }

func past() api.Whole { return api.Whole{Mag: "\x01" + strings.Repeat("\x00", api.MaxWhole)} }

func below(a api.Whole) api.Whole { return api.Whole{Neg: true, Mag: a.Mag} }

func more(a api.Whole, n int64) api.Whole { return whole(new(big.Int).Add(bigOf(a), big.NewInt(n))) }

// wrongFracs are fractions that may not be.
func wrongFracs() []api.Frac {
	one := small(1)
	return []api.Frac{
		{},
		{Num: one},
		{Num: small(0), Den: small(2)},
		{Num: one, Den: small(-2)},
		{Num: small(6), Den: small(4)},
		{Num: top(), Den: top()},
		{Num: past(), Den: one},
		{Num: below(past()), Den: one},
		{Num: one, Den: past()},
		{Num: api.Whole{Neg: true}, Den: one},
		{Num: api.Whole{Mag: "\x00\x07"}, Den: one},
		{Num: one, Den: api.Whole{Mag: "\x00"}},
		{Num: api.Whole{Mag: strings.Repeat("\x7f", api.MaxWide+1)}, Den: one},
	}
}

// wrongNumbers are numbers that may not be, for one part or for both.
func wrongNumbers() []api.Gauss {
	var l []api.Gauss
	for _, x := range wrongFracs() {
		l = append(l, api.Gauss{Re: x, Im: over(0, 1)}, api.Gauss{Re: over(-3, 2), Im: x}, api.Gauss{Re: x, Im: x})
	}
	return l
}

// wrong are points that may not be: such numbers, and infinity beside any.
func wrong() []api.Point {
	var l []api.Point
	for _, z := range wrongNumbers() {
		l = append(l, api.Point{Z: z})
		if z != (api.Gauss{}) {
			l = append(l, api.Point{Inf: true, Z: z})
		}
	}
	for _, z := range good() {
		if !z.inf {
			l = append(l, api.Point{Inf: true, Z: z.point().Z})
		}
	}
	return append(l, api.Point{Inf: true, Z: api.Gauss{Im: over(0, 1)}}, api.Point{Inf: true, Z: api.Gauss{Re: over(0, 1)}})
}

// good are some that may be, as long as may be among them.
func good() []spot {
	one := small(1)
	most, least := api.Frac{Num: top(), Den: one}, api.Frac{Num: below(one), Den: top()}
	near := api.Frac{Num: below(more(top(), -1)), Den: top()}
	numbers := []api.Gauss{
		{Re: over(0, 1), Im: over(0, 1)}, {Re: over(1, 1), Im: over(0, 1)}, {Re: over(0, 1), Im: over(-1, 1)},
		{Re: over(1, 2), Im: over(-2, 3)}, {Re: most, Im: over(0, 1)}, {Re: over(0, 1), Im: least},
		{Re: most, Im: least}, {Re: near, Im: most}, {Re: least, Im: near},
	}
	l := []spot{far()}
	for _, z := range numbers {
		l = append(l, spotOf(api.Point{Z: z}))
	}
	return l
}

// odds makes whole numbers of at most so many groups of 16 bits; many groups
// are all ones or all noughts.
func odds(r *rand.Rand, most int) *big.Int {
	n := new(big.Int)
	for range r.Intn(most + 1) {
		group := r.Int63n(1 << 16)
		switch r.Intn(6) {
		case 0:
			group = 1<<16 - 1
		case 1:
			group = 0
		}
		n.Lsh(n, 16)
		n.Add(n, big.NewInt(group))
	}
	if r.Intn(2) == 0 {
		n.Neg(n)
	}
	return n
}

func oddRat(r *rand.Rand, most int) *big.Rat {
	den := odds(r, most)
	if den.Sign() == 0 {
		den.SetInt64(1)
	}
	return new(big.Rat).SetFrac(odds(r, most), den)
}

// odd makes a point; some have one part alone, some the same den twice, some
// are infinity.
func odd(r *rand.Rand, most int) spot {
	z := at(oddRat(r, most), oddRat(r, most))
	switch r.Intn(12) {
	case 0:
		z.re = new(big.Rat)
	case 1:
		z.im = new(big.Rat)
	case 2:
		z.im = new(big.Rat).SetFrac(odds(r, most), z.re.Denom())
	case 3:
		return far()
	}
	return z
}

// bytes makes whole numbers of just so many bytes.
func bytes(r *rand.Rand, count int) *big.Int {
	b := make([]byte, count)
	r.Read(b)
	b[0] |= 0x80
	return new(big.Int).SetBytes(b)
}

// grid are points near 0, and infinity.
func grid() []spot {
	l := []spot{far()}
	for _, re := range []*big.Rat{big.NewRat(0, 1), big.NewRat(1, 1), big.NewRat(-1, 1), big.NewRat(-3, 2), big.NewRat(3, 5), big.NewRat(4, 1)} {
		for _, im := range []*big.Rat{big.NewRat(0, 1), big.NewRat(1, 1), big.NewRat(-1, 1), big.NewRat(1, 2), big.NewRat(-4, 5), big.NewRat(3, 1)} {
			l = append(l, at(re, im))
		}
	}
	return l
}

// brink are points of which the answers have about as many bytes as may be.
func brink(r *rand.Rand) []spot {
	var l []spot
	for count := 510; count <= 513; count++ {
		a, b, c := bytes(r, count), bytes(r, count), bytes(r, count)
		l = append(l, at(ofInt(a), new(big.Rat)), at(new(big.Rat), new(big.Rat).SetFrac(a, b)),
			at(ofInt(a), ofInt(b)), at(new(big.Rat).SetFrac(a, c), new(big.Rat).SetFrac(b, c)))
	}
	return l
}

// ones goes over points near 0, odd ones, and ones as long as may be.
func ones(do func(z spot)) {
	for _, z := range grid() {
		do(z)
	}
	r := rand.New(rand.NewSource(7))
	for range 1000 {
		do(odd(r, 1+r.Intn(12)))
	}
	for range 6 {
		do(odd(r, 512))
	}
	for _, z := range append(good(), brink(r)...) {
		do(z)
	}
}

// twoes goes over twos of such.
func twoes(do func(z, w spot)) {
	for _, z := range grid() {
		for _, w := range grid() {
			do(z, w)
		}
	}
	r := rand.New(rand.NewSource(70))
	for range 1000 {
		do(odd(r, 1+r.Intn(12)), odd(r, 1+r.Intn(12)))
	}
	for range 6 {
		do(odd(r, 120), odd(r, 120))
		do(odd(r, 512), odd(r, 512))
	}
	for _, z := range good() {
		for _, w := range good() {
			do(z, w)
		}
	}
	for _, z := range brink(r) {
		for _, w := range []spot{far(), short(0, 0), short(1, 2)} {
			do(z, w)
			do(w, z)
		}
	}
}

func want(t *testing.T, what string, got api.Point, e api.Errno, wanted api.Point) {
	t.Helper()
	if got != wanted || e != api.OK {
		t.Fatalf("%s is %s, %v, want %s", what, brief(got), e, brief(wanted))
	}
}

func wantRefused(t *testing.T, what string, got api.Point, e, wanted api.Errno) {
	t.Helper()
	if got != (api.Point{}) || e != wanted {
		t.Fatalf("%s is %s, %v, want nothing and %v", what, brief(got), e, wanted)
	}
}

// wantSpot wants the point, or that it is too long.
func wantSpot(t *testing.T, what string, got api.Point, e api.Errno, z spot) {
	t.Helper()
	if !z.fits() {
		wantRefused(t, what, got, e, api.ErrBig)
		return
	}
	want(t, what, got, e, z.point())
}

func wantPlaces(t *testing.T, what string, i, j int, e api.Errno, first, second int, wanted api.Errno) {
	t.Helper()
	if i != first || j != second || e != wanted {
		t.Fatalf("%s: %d, %d, %v, want %d, %d, %v", what, i, j, e, first, second, wanted)
	}
}

func briefFrac(x api.Frac) string {
	s := bigOf(x.Num).String() + "/" + bigOf(x.Den).String()
	if len(s) > 60 {
		return s[:60] + ".."
	}
	return s
}

func brief(p api.Point) string {
	if p.Inf {
		return "infinity"
	}
	return "(" + briefFrac(p.Z.Re) + ", " + briefFrac(p.Z.Im) + ")"
}
