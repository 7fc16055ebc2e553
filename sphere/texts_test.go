package sphere_test

import (
	"math/big"
	"strings"
	"testing"

	"tracery/api"
	"tracery/sphere"
)

// text goes by the words of chapters 3, 4 and 7.
func text(z spot) string {
	switch {
	case z.inf:
		return "inf"
	case z.im.Sign() == 0:
		return z.re.RatString()
	case z.re.Sign() == 0:
		return z.im.RatString() + "i"
	case z.im.Sign() > 0:
		return z.re.RatString() + "+" + z.im.RatString() + "i"
	}
	return z.re.RatString() + z.im.RatString() + "i"
}

func TestText(t *testing.T) { // P7.6
	check := func(z spot, wanted string) {
		t.Helper()
		if s, e := sphere.Text(z.point()); s != wanted || e != api.OK {
			t.Fatalf("the text of %s is %.100s, %v", brief(z.point()), s, e)
		}
		got, e := sphere.Read(wanted)
		want(t, wanted[:min(len(wanted), 60)]+" read", got, e, z.point())
	}
	ones(func(z spot) { check(z, text(z)) })
	check(far(), "inf")
	check(short(0, 0), "0")
	check(short(1, 1), "1+1i")
	check(short(0, -1), "-1i")
	check(at(big.NewRat(1, 2), big.NewRat(-3, 1)), "1/2-3i")
	for _, p := range wrong() {
		if s, e := sphere.Text(p); s != "" || e != api.ErrArg {
			t.Fatalf("the text of a wrong one is %.100s, %v", s, e)
		}
	}
}

func TestReadRefuses(t *testing.T) { // P7.6
	longest := bigOf(top()).String()
	tooLong := bigOf(past()).String()
	for _, s := range []string{
		"", " ", "Inf", "INF", "inf ", " inf", "+inf", "-inf", "infi", "inf+1i", "1+infi", "inf/1", "inf\x00", "infinity", "in", "i", "-i", "nan", "∞",
		"1+0i", "0+1i", "1i+1", "1+-1i", "--1", "+1", "01", "-0", "0i", "6/4", "1/0", "3/1", "1.5", "1 + 1i", "1+1j", "1+1", "1+1I", "(1+1i)", "\xff", "1\n",
		tooLong, "-" + tooLong, "1/" + tooLong, tooLong + "i", "1+" + tooLong + "i",
		strings.Repeat("1", api.MaxGaussText), strings.Repeat("1", api.MaxGaussText+1), strings.Repeat("inf", 1<<16), longest + longest + "i",
	} {
		got, e := sphere.Read(s)
		wantRefused(t, s[:min(len(s), 60)]+" read", got, e, api.ErrPoint)
	}
	got, e := sphere.Read(longest + "-" + longest + "i")
	want(t, "the longest numbers read", got, e, at(ofInt(bigOf(top())), ofInt(bigOf(below(top())))).point())
}
