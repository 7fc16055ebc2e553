package gauss_test

import (
	"strings"
	"testing"

	"tracery/api"
	"tracery/gauss"
)

// textOf is the text that the chapter's words say.
func textOf(z pair) string {
	re, im := z.re.RatString(), z.im.RatString()
	switch {
	case im == "0":
		return re
	case re == "0":
		return im + "i"
	case z.im.Sign() > 0:
		return re + "+" + im + "i"
	}
	return re + im + "i"
}

func TestTextAndRead(t *testing.T) { // P4.6
	ones(func(z pair) {
		wanted := textOf(z)
		if got, e := gauss.Text(z.number()); got != wanted || e != api.OK {
			t.Fatalf("the text of %s is %.100q, %v", brief(z.number()), got, e)
		}
		got, e := gauss.Read(wanted)
		want(t, "what is read", got, e, z.number())
	})
	for _, z := range wrong() {
		if got, e := gauss.Text(z); got != "" || e != api.ErrArg {
			t.Errorf("the text of a wrong one is %.100q, %v", got, e)
		}
	}
}

func TestTextByItsWords(t *testing.T) { // P4.6
	for wanted, z := range map[string]api.Gauss{
		"1/2-3i": {Re: over(1, 2), Im: over(-3, 1)}, "-1i": gauss.Int(0, -1), "1i": gauss.Int(0, 1), "0": gauss.Int(0, 0), "2": gauss.Int(2, 0),
		"-1/3+5/7i": {Re: over(-1, 3), Im: over(5, 7)}, "-1/3-5/7i": {Re: over(-1, 3), Im: over(-5, 7)}, "5/7i": {Re: over(0, 1), Im: over(5, 7)},
		"-5/7": {Re: over(-5, 7), Im: over(0, 1)}, "1+1i": gauss.Int(1, 1), "-1-1i": gauss.Int(-1, -1), "10-10i": gauss.Int(10, -10),
	} {
		if got, e := gauss.Text(z); got != wanted || e != api.OK {
			t.Errorf("the text is %q, %v, want %q", got, e, wanted)
		}
		got, e := gauss.Read(wanted)
		want(t, wanted, got, e, z)
	}
}

func TestReadRefuses(t *testing.T) { // P4.6
	for _, s := range []string{
		"", "i", "-i", "+i", "1+i", "1-i", "ii", "1ii", "1+ii", "-", "+", "+1", "+1i", "-+1i", "+-1i", "--1i", "--1", "1+", "1-", "1+1", "1-1", "1+1+1i",
		"1+0i", "1-0i", "0+1i", "0-1i", "0i", "-0i", "-0", "-0+1i", "0+0i", "1i+1", "1i+1i", "1i-1", "1+-1i", "1--1i", "1-+1i", "1++1i", "1+1i+1i", "1-1-1i", "1+1i ", "1+1ii",
		" 1", "1 +1i", "1+ 1i", " 1i", "1i\n", "1 i", "1*i", "i1", "1+i1", "1j", "1I", "1+1I", "(1+1i)", "1,1",
		"2/4", "2/4i", "1+2/4i", "2/4+1i", "3/1", "3/1i", "1+3/1i", "1/-2", "1/-2i", "1-1/-2i", "1/-2+1i", "1/0i", "1/i", "/2i", "1+/2i", "1//2i", "1/2/3i", "0/1i", "1+0/1i",
		"01", "01i", "1+01i", "00", "00i", "1+00i", "1.5", "1.5i", "1e5i", "0x1i", "1_0i", "½i", "١i", "\xff", "1+\xffi", "1\x00i", "x", "xi", "1+xi", "inf", "-i1",
	} {
		got, e := gauss.Read(s)
		wantRefused(t, s, got, e, api.ErrGauss)
	}
}

func TestReadAtTheBound(t *testing.T) { // P4.6
	most, next := bigOf(top()).String(), bigOf(past()).String()
	less := bigOf(more(top(), -1)).String()
	near := api.Frac{Num: below(more(top(), -1)), Den: top()}
	longest := "-" + less + "/" + most + "-" + less + "/" + most + "i"
	got, e := gauss.Read(longest)
	want(t, "the longest text", got, e, api.Gauss{Re: near, Im: near})
	if s, e := gauss.Text(got); s != longest || e != api.OK {
		t.Errorf("the longest text is %d bytes, %v", len(s), e)
	}
	for _, s := range []string{
		next, next + "i", "-" + next + "i", "1/" + next, "1/" + next + "i", "1+" + next + "i", next + "+1i", "1+1/" + next + "i", most + "/" + most, most + "+" + most + "/" + most + "i",
		strings.Repeat("9", api.MaxGaussText), strings.Repeat("9", api.MaxGaussText-1) + "i", strings.Repeat("x", api.MaxGaussText), strings.Repeat("-", api.MaxGaussText),
		longest + strings.Repeat("i", api.MaxGaussText-len(longest)), strings.Repeat("0", api.MaxGaussText-1) + "1",
	} {
		got, e := gauss.Read(s)
		wantRefused(t, s[:min(len(s), 50)], got, e, api.ErrGauss)
	}
	for _, s := range []string{
		strings.Repeat("9", api.MaxGaussText+1), strings.Repeat("9", api.MaxGaussText) + "i", strings.Repeat("x", api.MaxGaussText+1),
		strings.Repeat("+", 1<<20) + "i", strings.Repeat("1/", 1<<20), longest + strings.Repeat(" ", api.MaxGaussText+1-len(longest)),
	} {
		got, e := gauss.Read(s)
		wantRefused(t, s[:50], got, e, api.ErrLong)
	}
}
