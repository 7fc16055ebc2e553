package near_test

import (
	"math"
	"math/rand"
	"testing"

	"tracery/api"
	"tracery/near"
)

// floats goes over finite floats of all kinds.
func floats(do func(f float64)) {
	for _, f := range finites() {
		do(f)
	}
	for exponent := range uint64(2047) {
		do(math.Float64frombits(exponent << 52))
		do(math.Float64frombits(exponent<<52 | 1<<52 - 1 | signBit))
	}
	r := rand.New(rand.NewSource(62))
	for range 3000 {
		do(anyFinite(r))
		do(math.Float64frombits(r.Uint64() >> (12 + r.Intn(52)))) // below the first exponent
	}
}

func TestExact(t *testing.T) { // P6.2
	floats(func(f float64) {
		if got, e := near.Exact(f); got != fraction(exactly(f)) || e != api.OK {
			t.Fatalf("%x: %v, %v", bits(f), got, e)
		}
	})
	for _, f := range []float64{0, minusNought()} {
		if got, e := near.Exact(f); got != (api.Frac{Den: small(1)}) || e != api.OK {
			t.Errorf("a nought: %v, %v", got, e)
		}
	}
	if got, e := near.Exact(0.5); got != over(1, 2) || e != api.OK {
		t.Errorf("a half: %v, %v", got, e)
	}
}

func TestGap(t *testing.T) { // P6.2
	floats(func(f float64) {
		if got, e := near.Gap(f); got != fraction(gapOf(f)) || e != api.OK {
			t.Fatalf("%x: %v, %v", bits(f), got, e)
		}
	})
	for _, c := range []struct {
		f     float64
		power int
	}{
		{1, -52}, {-1, -52}, {0x1.fffffffffffffp-1, -53}, {0, -1074}, {minusNought(), -1074}, {0x1p-1074, -1074}, {0x0.fffffffffffffp-1022, -1074}, {0x1p-1022, -1074}, {-0x1p-1021, -1073},
		{math.MaxFloat64, 971}, {-math.MaxFloat64, 971}, {0x1p52, 0}, {0x1p53, 1},
	} {
		if got, e := near.Gap(c.f); got != fraction(twos(c.power)) || e != api.OK {
			t.Errorf("%x: %v, %v", bits(c.f), got, e)
		}
	}
}

func TestExactRefuses(t *testing.T) { // P6.2
	for _, f := range unfinites() {
		if got, e := near.Exact(f); got != (api.Frac{}) || e != api.ErrFloat {
			t.Errorf("Exact %x: %v, %v", bits(f), got, e)
		}
		if got, e := near.Gap(f); got != (api.Frac{}) || e != api.ErrFloat {
			t.Errorf("Gap %x: %v, %v", bits(f), got, e)
		}
	}
	for _, z := range unfiniteNumbers() {
		if got, e := near.ExactComplex(z); got != (api.Gauss{}) || e != api.ErrFloat {
			t.Errorf("ExactComplex %v: %v, %v", z, got, e)
		}
	}
}

func TestExactComplex(t *testing.T) { // P6.2
	last := 0.1
	floats(func(f float64) {
		z := complex(last, f)
		if got, e := near.ExactComplex(z); got != pairOf(z).number() || e != api.OK {
			t.Fatalf("%v: %v, %v", z, got, e)
		}
		last = f
	})
}
