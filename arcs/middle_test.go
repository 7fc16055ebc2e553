package arcs_test

import (
	"math"
	"testing"

	"tracery/api"
	"tracery/arcs"
)

func TestMiddleExamples(t *testing.T) { // P29.3
	n := minusNought()
	for _, x := range []struct {
		a    api.Arc
		want complex128
		e    api.Errno
	}{
		{straight(0, 2), 1, api.OK},
		{straight(1+1i, 1+1i), 1 + 1i, api.OK},
		{straight(complex(n, 0), complex(n, n)), complex(n, 0), api.OK},
		{straight(0x1p-1074, 0), 0, api.OK},
		// The sum is too great, though the middle would not be.
		{straight(math.MaxFloat64, math.MaxFloat64), 0, api.ErrFloat},
		{straight(0x1p1023i, 0x1p1023i), 0, api.ErrFloat},
		{straight(0x1p1023, -0x1p1023), 0, api.OK},
		{round(1, 2), -1, api.OK},
		{round(complex(1, n), 1), complex(0, 0), api.OK},
		{round(-math.MaxFloat64, 0x1p1000), 0, api.ErrFloat},
		{round(math.MaxFloat64, math.MaxFloat64), 0, api.OK},
		{half(), complex(0, 1), api.OK},
		{bow(1, -1, 0, 1, false), complex(0, -1), api.OK},
		{bow(0, 4, 2+3i, 5, true), 2 - 2i, api.OK},
		{bow(0, 4, 2+3i, 5, false), 2 + 8i, api.OK},
		{bow(1, 1, 0, 1, true), 0, api.ErrNone},
		{bow(0, complex(n, n), 0, 1, false), 0, api.ErrNone},
		// ErrNone, whatever would come out.
		{bow(1, 1, math.MaxFloat64, math.MaxFloat64, true), 0, api.ErrNone},
		// A quotient, a product, a sum, a chord that are too great.
		{bow(0, 0x1p-1074, 0, 1, true), 0, api.ErrFloat},
		{bow(0, 1, 0x1p1023i, 0x1p1023, false), 0, api.ErrFloat},
		{bow(0x1p1023, -0x1p1023, 0, 1, true), 0, api.ErrFloat},
		{bow(0, 1, 0, 0x1p1023, true), complex(0, -0x1p1023), api.OK},
	} {
		z, e := arcs.Middle(x.a)
		wantNumber(t, told("Middle", x.a), z, e, x.want, x.e)
	}
}

func TestMiddleMany(t *testing.T) { // P29.3
	counts := tally{}
	arcsOf(297, 10000, func(a api.Arc) {
		want, wantE := middleOf(a)
		z, e := arcs.Middle(a)
		wantNumber(t, told("Middle", a), z, e, want, wantE)
		counts[e]++
	})
	counts.want(t, 100, api.OK, api.ErrFloat, api.ErrNone)
}
