package whole_test

import (
	"math/big"
	"math/rand"
	"strings"
	"testing"

	"tracery/api"
	"tracery/whole"
)

// decimals are numbers beside which a text grows by a digit.
func decimals() []*big.Int {
	l := append(edges(), bigOf(top()), bigOf(below(top())))
	n := big.NewInt(1)
	for range 60 {
		n = new(big.Int).Mul(n, big.NewInt(10))
		l = append(l, n, new(big.Int).Sub(n, big.NewInt(1)), new(big.Int).Neg(n), new(big.Int).Add(n, big.NewInt(7)))
	}
	r := rand.New(rand.NewSource(19))
	for range 3000 {
		l = append(l, odds(r, 12))
	}
	return l
}

func TestText(t *testing.T) { // P2.5
	for _, n := range decimals() {
		if got, e := whole.Text(number(n)); got != n.String() || e != api.OK {
			t.Fatalf("the text of %v is %q, %v", n, got, e)
		}
	}
	for _, a := range wrong() {
		if got, e := whole.Text(a); got != "" || e != api.ErrArg {
			t.Errorf("the text of a wrong one is %q, %v", got, e)
		}
	}
}

func TestRead(t *testing.T) { // P2.5
	for _, n := range decimals() {
		got, e := whole.Read(n.String())
		want(t, "what is read", got, e, number(n))
	}
	for _, s := range []string{
		"", "-", "-0", "007", "00", "-01", "-00", "+1", "+", "--1", "1-", "1e5", "1 ", " 1", "1\n", "1_000", "0x10", "1.0", "a", "/", ":", "1/", "1:", "\x00", "\xff", "١", "12345678901234567890x", "x12345678901234567890",
	} {
		got, e := whole.Read(s)
		wantRefused(t, s, got, e, api.ErrDigits)
	}
}

func TestReadAtTheBound(t *testing.T) { // P2.5
	past := new(big.Int).Add(bigOf(top()), big.NewInt(1)).String()
	for _, x := range []struct {
		what, s string
		e       api.Errno
	}{
		{"one past the greatest", past, api.ErrBig},
		{"one past the least", "-" + past, api.ErrBig},
		{"as many digits as may be", strings.Repeat("9", api.MaxDigits), api.ErrBig},
		{"as many bytes as may be", "-" + strings.Repeat("9", api.MaxDigits-1), api.ErrBig},
		{"noughts ahead", strings.Repeat("0", api.MaxDigits), api.ErrDigits},
		{"no digit at the end", strings.Repeat("9", api.MaxDigits-1) + "x", api.ErrDigits},
		{"a byte too many", strings.Repeat("9", api.MaxDigits+1), api.ErrLong},
		{"a byte too many with the sign", "-" + strings.Repeat("9", api.MaxDigits), api.ErrLong},
		{"too many noughts", strings.Repeat("0", api.MaxDigits+1), api.ErrLong},
		{"too many that are no digits", strings.Repeat("x", 2*api.MaxDigits), api.ErrLong},
	} {
		got, e := whole.Read(x.s)
		wantRefused(t, x.what, got, e, x.e)
	}
}
