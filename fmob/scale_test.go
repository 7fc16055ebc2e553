package fmob_test

import (
	"math"
	"math/big"
	"math/rand"
	"testing"

	"tracery/api"
	"tracery/fmob"
)

// topOf is the greatest of the magnitudes, by their bits.
func topOf(f api.FMob) float64 {
	var top uint64
	for _, x := range partsOf(f) {
		top = max(top, bits(x)&^signBit)
	}
	return math.Float64frombits(top)
}

// powerOf is k of P9.4, found one by one from above, exactly.
func powerOf(top float64) int {
	k := 1024
	for twos(k).Cmp(exactly(top)) > 0 {
		k--
	}
	return k
}

// shiftedOf is a product by 2 to the power n, exactly, and rounded once.
func shiftedOf(x float64, n int) float64 {
	y, _ := new(big.Rat).Mul(exactly(x), twos(n)).Float64()
	return math.Copysign(y, x)
}

func scaledOf(f api.FMob) api.FMob {
	k := powerOf(topOf(f))
	l := partsOf(f)
	for j, x := range l {
		l[j] = shiftedOf(x, -k)
	}
	return fromParts(l, f.Turns)
}

func wantScaled(t *testing.T, f, want api.FMob) {
	t.Helper()
	g, e := fmob.Scale(f)
	if e != api.OK {
		t.Fatalf("Scale(%v): %v", f, e)
	}
	wantMap(t, "Scale", g, want)
}

func TestScaleExamples(t *testing.T) { // P9.4
	n := minusNought()
	for _, x := range []struct{ f, want api.FMob }{
		{plain(6, 0, 0, 1), plain(1.5, 0, 0, 0.25)},
		{turning(6, 0, 0, 1), turning(1.5, 0, 0, 0.25)},
		{plain(1, 0, 0, 1), plain(1, 0, 0, 1)},
		{plain(0.5, complex(n, n), 0, 0), plain(1, complex(n, n), 0, 0)},
		{plain(0, complex(0, -8), 4, complex(n, -3)), plain(0, complex(0, -1), 0.5, complex(n, -0.375))},
		{plain(0, 0, 0, complex(0, math.Nextafter(2, 0))), plain(0, 0, 0, complex(0, math.Nextafter(2, 0)))},
		{plain(0, 0, 2, 0), plain(0, 0, 1, 0)},
		// The least float: no float is the power by which it goes.
		{plain(0x1p-1074, 0, 0, 0), plain(1, 0, 0, 0)},
		{turning(0, complex(0, -0x3p-1074), 0x1p-1074, 0), turning(0, complex(0, -1.5), 0.5, 0)},
		{plain(0x1p-1022, 0x0.8p-1022, 0, 0), plain(1, 0.5, 0, 0)},
		// What gets too small is rounded once, of two as near to the one whose last
		// bit is 0, and keeps its sign.
		{plain(math.MaxFloat64, 1, 0, 0), plain(complex(math.Nextafter(2, 0), 0), 0x1p-1023, 0, 0)},
		{plain(0x1p1023, 0x1p-51, -0x1p-52, 0x1.8p-51), plain(1, 0x1p-1074, complex(n, 0), 0x1p-1073)},
		{plain(-0x1p1023, 0x1.0000000000001p-52, complex(-0x1.8p-52, -0x1p-1074), 0x1p-1022), plain(-1, 0x1p-1074, complex(-0x1p-1074, n), 0)},
	} {
		wantScaled(t, x.f, x.want)
		wantMap(t, "what is wanted", scaledOf(x.f), x.want)
	}
}

// Each of the eight parts may be the greatest one.
func TestScalePlaces(t *testing.T) { // P9.4
	for k := range 8 {
		for _, top := range []float64{0x1p-1074, 0x1.8p-1030, 0x1p-1022, 0.7, -1, 3, -0x1p1023, math.MaxFloat64} {
			for _, rest := range []float64{0, minusNought(), 0x1p-1074, -0x1p-1074} {
				var l [8]float64
				for j := range l {
					l[j] = rest
				}
				l[k] = top
				f := fromParts(l, k%2 == 0)
				wantScaled(t, f, scaledOf(f))
			}
		}
	}
}

func TestScaleMany(t *testing.T) { // P9.4
	done, flat, unfinite := 0, 0, 0
	try := func(f api.FMob) {
		switch {
		case !mayBe(f):
			unfinite++
			g, e := fmob.Scale(f)
			wantErrno(t, "Scale", g, e, api.ErrFloat)
		case topOf(f) == 0:
			flat++
			g, e := fmob.Scale(f)
			wantErrno(t, "Scale", g, e, api.ErrNone)
		default:
			done++
			wantScaled(t, f, scaledOf(f))
		}
	}
	for _, f := range namedMaps() {
		try(f)
	}
	r := rand.New(rand.NewSource(97))
	for _, part := range kinds() {
		for range 400 {
			try(mapOf(r, part))
		}
	}
	// Wide apart, so that many get too small.
	for range 800 {
		f := mapOf(r, func(r *rand.Rand) float64 { return math.Ldexp(r.Float64()-0.5, r.Intn(200)-1070) })
		f.B = complex(math.Ldexp(1+r.Float64(), r.Intn(1024)), 0)
		try(f)
	}
	if done < 1000 || flat < 3 || unfinite < 300 {
		t.Errorf("%d, %d, %d", done, flat, unfinite)
	}
}

func TestScaleRefuses(t *testing.T) { // P9.4
	n := minusNought()
	for _, f := range []api.FMob{{}, {Turns: true}, plain(complex(n, n), 0, complex(0, n), complex(n, 0))} {
		g, e := fmob.Scale(f)
		wantErrno(t, "noughts", g, e, api.ErrNone)
	}
	for _, x := range []float64{math.NaN(), math.Inf(1), math.Inf(-1), math.Float64frombits(0xfff0000000000001)} {
		for k := range 8 {
			for _, rest := range []float64{0, 1, math.MaxFloat64} {
				var l [8]float64
				for j := range l {
					l[j] = rest
				}
				l[k] = x
				g, e := fmob.Scale(fromParts(l, true))
				wantErrno(t, "a part that is not finite", g, e, api.ErrFloat)
			}
		}
	}
}
