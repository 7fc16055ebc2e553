package fixed_test

import (
	"math/big"
	"math/rand"
	"strings"

	"tracery/api"
)

// wrongFracs are fractions that may not be.
func wrongFracs() []api.Frac {
	one := small(1)
	return []api.Frac{
		{},
		{Num: one},
		{Num: small(0), Den: small(2)},
		{Num: one, Den: small(-2)},
		{Num: small(6), Den: small(4)},
		{Num: whole(top()), Den: whole(top())},
		{Num: whole(past()), Den: one},
		{Num: whole(new(big.Int).Neg(past())), Den: one},
		{Num: one, Den: whole(past())},
		{Num: api.Whole{Neg: true}, Den: one},
		{Num: api.Whole{Mag: "\x00\x01"}, Den: one},
		{Num: one, Den: api.Whole{Mag: "\x00"}},
		{Num: api.Whole{Mag: strings.Repeat("\x7f", api.MaxWide+1)}, Den: one},
	}
}

// wrongNumbers are numbers that may not be, for one part or for both.
func wrongNumbers() []api.Gauss {
	var l []api.Gauss
	for _, x := range wrongFracs() {
		l = append(l, api.Gauss{Re: x, Im: over(0, 1)}, api.Gauss{Re: over(1, 1), Im: x}, api.Gauss{Re: x, Im: x})
	}
	return l
}

// wrongPoints are points that may not be: such numbers, and infinity beside any.
func wrongPoints() []api.Point {
	l := []api.Point{{Inf: true, Z: in(0, 0).gauss()}, {Inf: true, Z: in(1, 2).gauss()}, {Inf: true, Z: api.Gauss{Re: over(0, 1)}}}
	for _, z := range wrongNumbers() {
		l = append(l, api.Point{Z: z})
	}
	return l
}

// wrongMaps are maps that may not be: for a number, for their form, for being
// flat. Each stands turned, too.
func wrongMaps() []api.Mob {
	l := []api.Mob{{}}
	for _, z := range wrongNumbers() {
		for _, m := range []api.Mob{still().mob(), swap().mob(), charted(3, 1, 1, 2).mob()} {
			a, b, c, d := m, m, m, m
			a.A, b.B, c.C, d.D = z, z, z, z
			l = append(l, a, b, c, d)
		}
	}
	long := flat(ofInt(top()))
	for _, m := range []chart{
		charted(2, 0, 0, 2), charted(1, 0, 0, -1), charted(0, 2, 2, 0), charted(0, 1, -1, 0), charted(1, 0, 2, 1), // another form's
		{a: in(0, 1), b: in(0, 0), c: in(0, 0), d: in(0, 1)}, {a: in(0, 0), b: in(1, 0), c: in(0, 1), d: in(0, 0)},
		charted(0, 0, 0, 0), charted(0, 0, 0, 1), charted(0, 5, 0, 1), charted(1, 1, 0, 0), charted(0, 0, 1, 0), charted(2, 6, 1, 3), charted(1, -1, 1, -1), // flat
		{a: in(1, 1), b: in(2, 0), c: in(1, 0), d: in(1, -1)}, {a: long, b: long, c: in(1, 0), d: in(1, 0)},
	} {
		l = append(l, m.mob())
	}
	for _, m := range l {
		m.Turns = true
		l = append(l, m)
	}
	return l
}

// odd makes fractions of at most so many bytes above the line and below.
func odd(r *rand.Rand, most int) *big.Rat {
	b := make([]byte, 2*most)
	r.Read(b)
	above, below := new(big.Int).SetBytes(b[:r.Intn(most+1)]), new(big.Int).SetBytes(b[most:][:r.Intn(most+1)])
	if below.Sign() == 0 {
		below.SetInt64(1)
	}
	if r.Intn(2) == 0 {
		above.Neg(above)
	}
	return new(big.Rat).SetFrac(above, below)
}

func oddNum(r *rand.Rand, most int) num {
	switch z := (num{odd(r, most), odd(r, most)}); r.Intn(8) {
	case 0:
		return num{none(), z.im}
	case 1:
		return flat(z.re)
	default:
		return z
	}
}

func oddSpot(r *rand.Rand, most int) spot {
	if r.Intn(10) == 0 {
		return far()
	}
	return at(oddNum(r, most))
}

// oddMap does not turn.
func oddMap(r *rand.Rand, most int) chart {
	for {
		m := curved(oddNum(r, most), oddNum(r, most), oddNum(r, most))
		if r.Intn(4) == 0 {
			m.c, m.d = in(0, 0), in(1, 0)
		}
		if !m.det().zero() {
			return m
		}
	}
}

// full makes fractions whose numbers have just so many bytes, nearly always.
func full(r *rand.Rand, count int) *big.Rat {
	b := make([]byte, 2*count)
	r.Read(b)
	b[0], b[count] = b[0]|0x80, b[count]|0x80
	return new(big.Rat).SetFrac(new(big.Int).SetBytes(b[:count]), new(big.Int).SetBytes(b[count:]))
}

func fullNum(r *rand.Rand, count int) num { return num{full(r, count), full(r, count)} }

// longs are maps as long as may be, or nearly so.
func longs() []chart {
	r := rand.New(rand.NewSource(1500))
	most := flat(ofInt(top()))
	least := num{under(top()), under(more(top(), -2))}
	return []chart{
		curved(fullNum(r, api.MaxWhole), fullNum(r, api.MaxWhole), fullNum(r, api.MaxWhole)),
		curved(flat(full(r, api.MaxWhole)), flat(full(r, api.MaxWhole)), flat(full(r, api.MaxWhole))),
		curved(flat(full(r, api.MaxWhole)), flat(opposite(full(r, api.MaxWhole))), flat(full(r, api.MaxWhole))),
		{a: fullNum(r, api.MaxWhole), b: fullNum(r, api.MaxWhole), c: in(0, 0), d: in(1, 0)},
		slide(fullNum(r, api.MaxWhole)), slide(most), stretch(most), stretch(least), stretch(flat(under(top()))),
		curved(most, least, most.neg()), curved(least, most, least), curved(most, most.neg(), most),
	}
}

// factors are numbers that go well as factors: roots of 1, of the magnitude 1,
// above 0, others.
func factors() []num {
	return []num{
		in(-1, 0), in(0, 1), in(0, -1), {rat(3, 5), rat(4, 5)}, {rat(-5, 13), rat(12, 13)}, {rat(0, 1), rat(-1, 1)},
		in(2, 0), flat(rat(1, 3)), flat(rat(7, 2)), in(-2, 0), flat(rat(-1, 2)), in(0, 2), in(1, 1), {rat(-3, 2), rat(1, 7)},
	}
}

// kindOf is the kind of z to k z, k not being 0.
func kindOf(k num) api.MobKind {
	switch {
	case k.same(in(1, 0)):
		return api.MobStill
	case k.norm().Cmp(rat(1, 1)) == 0:
		return api.MobRound
	case k.im.Sign() == 0 && k.re.Sign() > 0:
		return api.MobAway
	}
	return api.MobSpiral
}

// grains are all maps of some small numbers, C being 0 or 1; they do not turn.
func grains() []chart {
	numbers := []num{in(0, 0), in(1, 0), in(-1, 0), in(0, 1), in(1, -1), in(2, 0), in(-3, 0), {rat(-1, 4), none()}, {rat(3, 5), rat(4, 5)}, in(0, -2)}
	var l []chart
	for _, a := range numbers {
		for _, b := range numbers {
			if m := (chart{a: a, b: b, c: in(0, 0), d: in(1, 0)}); !m.det().zero() {
				l = append(l, m)
			}
			for _, d := range numbers {
				if m := curved(a, b, d); !m.det().zero() {
					l = append(l, m)
				}
			}
		}
	}
	return l
}

// spots are some points: near 0, infinity, odd ones, ones as long as may be.
func spots() []spot {
	r := rand.New(rand.NewSource(1501))
	l := []spot{far(), at(num{rat(1, 2), rat(-3, 2)}), at(flat(rat(1, 2))), at(num{rat(-1, 2), rat(1, 2)}), at(flat(ofInt(top()))), at(num{ofInt(more(top(), -1)), under(top())})}
	for re := int64(-2); re <= 2; re++ {
		for im := int64(-2); im <= 2; im++ {
			l = append(l, on(re, im))
		}
	}
	for range 4 {
		l = append(l, oddSpot(r, 6))
	}
	return l
}
