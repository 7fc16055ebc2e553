package near_test

import (
	"math"
	"testing"

	"tracery/near"
)

func wantFloats(t *testing.T, what string, a, b float64, want ...float64) {
	t.Helper()
	var got []float64
	for f := range near.Between(a, b) {
		got = append(got, f)
		if len(got) > len(want) {
			break
		}
	}
	if len(got) != len(want) {
		t.Errorf("%s: %v, not %v", what, got, want)
		return
	}
	for k := range want {
		if bits(got[k]) != bits(want[k]) {
			t.Errorf("%s: %v, not %v", what, got, want)
		}
	}
}

func TestBetween(t *testing.T) { // P6.5
	least, greatest, nought := 0x1p-1074, math.MaxFloat64, minusNought()
	wantFloats(t, "from 0", 0, 0x1p-1073, 0, least, 0x1p-1073)
	wantFloats(t, "from -0", nought, 0x1p-1073, 0, least, 0x1p-1073)
	wantFloats(t, "nothing", 1, 0)
	wantFloats(t, "one", 1, 1, 1)
	wantFloats(t, "one below", -0.1, -0.1, -0.1)
	wantFloats(t, "over 0", -0x1p-1073, least, -0x1p-1073, -least, 0, least)
	wantFloats(t, "up to 0", -least, 0, -least, 0)
	wantFloats(t, "up to -0", -least, nought, -least, 0)
	wantFloats(t, "0 to 0", 0, 0, 0)
	wantFloats(t, "-0 to 0", nought, 0, 0)
	wantFloats(t, "0 to -0", 0, nought, 0)
	wantFloats(t, "-0 to -0", nought, nought, 0)
	wantFloats(t, "over an exponent", 0x1.fffffffffffffp-1, 0x1.0000000000001p0, 0x1.fffffffffffffp-1, 1, 0x1.0000000000001p0)
	wantFloats(t, "over an exponent below", -0x1.0000000000001p1, -0x1.fffffffffffffp0, -0x1.0000000000001p1, -2, -0x1.fffffffffffffp0)
	wantFloats(t, "over the first exponent", 0x0.fffffffffffffp-1022, 0x1p-1022, 0x0.fffffffffffffp-1022, 0x1p-1022)
	wantFloats(t, "the greatest", 0x1.ffffffffffffep1023, greatest, 0x1.ffffffffffffep1023, greatest)
	wantFloats(t, "the least of all", -greatest, -0x1.ffffffffffffep1023, -greatest, -0x1.ffffffffffffep1023)
	wantFloats(t, "by one too few", math.Nextafter(1, 2), 1)
	wantFloats(t, "below 0, the wrong way", -1, -2)
	wantFloats(t, "the wrong way over 0", least, -least)
	wantFloats(t, "above -0", least, nought)
}

func TestBetweenWhatIsNotFinite(t *testing.T) { // P6.5
	for _, f := range unfinites() {
		for _, g := range append(unfinites(), finites()...) {
			wantFloats(t, "from what is not finite", f, g)
			wantFloats(t, "to what is not finite", g, f)
		}
	}
}

// Each float is told once, and none is left out.
func TestBetweenIsWhole(t *testing.T) { // P6.5
	for _, from := range []float64{-0x7dp-1074, 0x1p-1022, 1, -0x1.0000000000100p5, -0x1.0000000000064p-1022, 0x1.fffffffffff00p1023} {
		to, want := from, []float64{from}
		for range 250 {
			to = math.Nextafter(to, math.Inf(1)) + 0
			want = append(want, to)
		}
		wantFloats(t, "a long row", from, to, want...)
	}
}

func TestBetweenIsLeftAndBegunAnew(t *testing.T) { // P6.5
	all := near.Between(-math.MaxFloat64, math.MaxFloat64)
	for range 3 {
		told := 0
		for f := range all {
			if told == 0 && f != -math.MaxFloat64 {
				t.Errorf("begun with %v", f)
			}
			if told++; told == 5 {
				break
			}
		}
		if told != 5 {
			t.Errorf("told %d", told)
		}
	}
	three := near.Between(1, 0x1.0000000000002p0)
	pairs := 0
	for f := range three { // one within the other
		inner := 0
		for g := range three {
			if inner++; g > f {
				break
			}
			pairs++
		}
	}
	if pairs != 6 {
		t.Errorf("pairs in order: %d", pairs)
	}
}
