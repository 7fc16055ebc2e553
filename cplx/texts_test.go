package cplx_test

import (
	"math"
	"regexp"
	"strconv"
	"strings"
	"testing"

	"tracery/api"
	"tracery/cplx"
)

func partText(x float64) string {
	if isNaN(x) {
		return "nan"
	}
	s := strconv.FormatUint(bits(x), 16)
	return strings.Repeat("0", 16-len(s)) + s
}

// isText tells a number's text by its form, and by the digits of a NaN's bits.
func isText(s string) bool {
	if !regexp.MustCompile(`\A(nan|[0-9a-f]{16}),(nan|[0-9a-f]{16})\z`).MatchString(s) {
		return false
	}
	for _, p := range strings.Split(s, ",") {
		if n, err := strconv.ParseUint(p, 16, 64); p != "nan" && (err != nil || isNaN(math.Float64frombits(n))) {
			return false
		}
	}
	return true
}

func TestText(t *testing.T) { // P5.6
	ones(func(z complex128) {
		want := partText(real(z)) + "," + partText(imag(z))
		if s := cplx.Text(z); s != want {
			t.Errorf("Text(%v): %s, not %s", z, s, want)
		}
	})
	for _, c := range []struct {
		z    complex128
		want string
	}{
		{complex(1, minusNought()), "3ff0000000000000,8000000000000000"},
		{complex(math.NaN(), 1), "nan,3ff0000000000000"},
		{complex(math.Inf(1), math.Inf(-1)), "7ff0000000000000,fff0000000000000"},
		{complex(0x1p-1074, math.MaxFloat64), "0000000000000001,7fefffffffffffff"},
	} {
		if s := cplx.Text(c.z); s != c.want {
			t.Errorf("Text(%v): %s", c.z, s)
		}
	}
	for _, x := range nans() {
		if s := cplx.Text(complex(x, x)); s != "nan,nan" {
			t.Errorf("a NaN of %x: %s", bits(x), s)
		}
	}
}

func wantNoText(t *testing.T, s string) {
	t.Helper()
	if z, e := cplx.Read(s); e != api.ErrBits || !like(z, 0) {
		t.Errorf("Read(%q): %v, %v", s, z, e)
	}
}

func TestRead(t *testing.T) { // P5.6
	for _, c := range []struct {
		s    string
		want complex128
	}{
		{"3ff0000000000000,8000000000000000", complex(1, minusNought())},
		{"nan,3ff0000000000000", complex(math.NaN(), 1)},
		{"3ff0000000000000,nan", complex(1, math.NaN())},
		{"nan,nan", complex(math.NaN(), math.NaN())},
		{"7ff0000000000000,fff0000000000000", complex(math.Inf(1), math.Inf(-1))},
		{"0123456789abcdef,fedcba9876543210", complex(math.Float64frombits(0x0123456789abcdef), math.Float64frombits(0xfedcba9876543210))},
		{"0000000000000000,0000000000000001", complex(0, 0x1p-1074)},
	} {
		if z, e := cplx.Read(c.s); e != api.OK || !like(z, c.want) {
			t.Errorf("Read(%s): %v, %v", c.s, z, e)
		}
	}
}

func TestReadRefused(t *testing.T) { // P5.6
	one := "3ff0000000000000"
	for _, s := range []string{
		"", ",", "1,2", "nan", "nan,", ",nan", one, one + ",", "," + one, one + "," + one + ",", one + ",," + one, one + "," + one + "," + one,
		"NaN,nan", "NAN,nan", "nan,-nan", "nan,+nan", "nan,nan0", "nannan", "inf,nan", "+inf," + one,
		"3FF0000000000000,0000000000000000", "0x3ff00000000000," + one, "+3ff000000000000," + one, "-ff0000000000000," + one,
		one + ", " + one, one + " ," + one, " " + one + "," + one, one + "," + one + " ", one + "," + one + "\n", one + ";" + one, one + "\x00" + one,
		"3ff000000000000," + one, "03ff0000000000000," + one, one + ",3ff00000000000000", "3ff00000000000," + one + "00",
		"3ff000000000000g," + one, one + ",3ff000000000000\u0661", "3ff0_00000000000," + one, "3ff0000000000001p0," + one,
		"7ff8000000000001,0000000000000000", "7ff0000000000001," + one, one + ",fff8000000000000", one + ",ffffffffffffffff", "7fffffffffffffff,nan",
		strings.Repeat("0", 1<<20) + "," + one, one + "," + strings.Repeat("f", 1<<20), strings.Repeat(",", 1<<16), "1+2i", "(1+2i)", "\xff\xfe,nan",
	} {
		wantNoText(t, s)
	}
}

func TestTextsNearly(t *testing.T) { // P5.6
	check := func(s string) {
		if isText(s) {
			if z, e := cplx.Read(s); e != api.OK || cplx.Text(z) != s {
				t.Errorf("Read(%q): %v, %v", s, z, e)
			}
			return
		}
		wantNoText(t, s)
	}
	for _, s := range []string{
		"3ff0000000000000,8000000000000000", "nan,3ff0000000000000", "3ff0000000000000,nan", "nan,nan", "7ff0000000000000,fff0000000000000",
	} {
		for k := range len(s) {
			for c := range 256 {
				check(s[:k] + string([]byte{byte(c)}) + s[k+1:])
				check(s[:k] + string([]byte{byte(c)}) + s[k:])
			}
			check(s[:k] + s[k+1:])
			check(s[:k])
			check(s[k:])
			check(s + s[k:])
		}
	}
}
