package frac_test

import (
	"math/big"
	"strings"
	"testing"

	"tracery/api"
	"tracery/frac"
)

func TestTextAndRead(t *testing.T) { // P3.7
	check := func(r *big.Rat) {
		wanted := r.RatString()
		if got, e := frac.Text(fraction(r)); got != wanted || e != api.OK {
			t.Fatalf("the text of %s is %.100q, %v", brief(fraction(r)), got, e)
		}
		got, e := frac.Read(wanted)
		want(t, "what is read", got, e, fraction(r))
	}
	ones(check)
	for _, x := range good() {
		check(ratOf(x))
	}
	for _, x := range wrong() {
		if got, e := frac.Text(x); got != "" || e != api.ErrArg {
			t.Errorf("the text of a wrong one is %.100q, %v", got, e)
		}
	}
}

func TestReadRefuses(t *testing.T) { // P3.7
	for _, s := range []string{
		"", "-", "/", "-/", "1/", "/1", "/2", "-1/", "-/2", "1//2", "1/2/", "1/2/3", "/1/2", "1/2/3/4", "//",
		"6/4", "-6/4", "3/1", "0/1", "-3/1", "0/2", "2/2", "1/0", "0/0", "-0", "-0/1", "0/-1",
		"3/-2", "-3/-2", "1/-1", "03", "-03", "03/2", "3/02", "00", "0/02", "1/+2", "+1", "+1/2",
		" 1", "1 ", "1 /2", "1/ 2", "1/2 ", "1/2\n", "1\x00/2", "1.5", "1/2.0", "1e5", "1/1e5", "0x1/2", "1_0/3",
		"1-", "1-1/2", "1/2-", "--1/2", "-1/--2", "x", "1/x", "½", "1⁄2", "١/٢", "1\\2", "1:2", "\xff", "1/\xff",
	} {
		got, e := frac.Read(s)
		wantRefused(t, s, got, e, api.ErrFrac)
	}
}

func TestReadAtTheBound(t *testing.T) { // P3.7
	most := bigOf(top()).String()
	more := bigOf(past()).String()
	less := bigOf(plus(top(), -1)).String()
	got, e := frac.Read("-" + less + "/" + most)
	want(t, "the longest text", got, e, api.Frac{Num: below(plus(top(), -1)), Den: top()})
	for _, s := range []string{
		more, "-" + more, "1/" + more, more + "/" + most, most + "/" + more, most + "/" + most,
		strings.Repeat("9", api.MaxDigits+1), "1/" + strings.Repeat("9", api.MaxDigits+1), strings.Repeat("9", api.MaxDigits),
		strings.Repeat("/", 1<<20), strings.Repeat("1/", 1<<20), strings.Repeat("1", 1<<20), strings.Repeat("x", 1<<20),
	} {
		got, e := frac.Read(s)
		wantRefused(t, s[:min(len(s), 50)], got, e, api.ErrFrac)
	}
}
