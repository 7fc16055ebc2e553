package whole_test

import (
	"math"
	"math/big"
	"strings"
	"testing"

	"tracery/api"
	"tracery/whole"
)

func TestCheck(t *testing.T) { // P2.1
	for _, a := range wrong() {
		if e := whole.Check(a); e != api.ErrArg {
			t.Errorf("%v of %q, %d bytes", e, a.Mag[:min(len(a.Mag), 9)], len(a.Mag))
		}
	}
	for _, a := range append(good(), power2(topBits-1), api.Whole{Neg: true, Mag: "\x01\x00"}) {
		if e := whole.Check(a); e != api.OK {
			t.Errorf("%v of %s", e, brief(a))
		}
	}
}

func TestOf(t *testing.T) { // P2.1
	if got := whole.Of(-256); got != (api.Whole{Neg: true, Mag: "\x01\x00"}) {
		t.Errorf("-256 is %+v", got)
	}
	if got := whole.Of(0); got != (api.Whole{}) {
		t.Errorf("0 is %+v", got)
	}
	for _, n := range edges() {
		if n.IsInt64() && whole.Of(n.Int64()) != number(n) {
			t.Errorf("%v is %+v", n, whole.Of(n.Int64()))
		}
	}
}

func TestSmall(t *testing.T) { // P2.1
	for _, n := range edges() {
		var want int64
		if n.IsInt64() {
			want = n.Int64()
		}
		if got, ok := whole.Small(number(n)); got != want || ok != n.IsInt64() {
			t.Errorf("%v is %d, %v", n, got, ok)
		}
	}
	for _, a := range append(wrong(), top(), below(top()), api.Whole{Neg: true, Mag: "\x80\x00\x00\x00\x00\x00\x00\x01"}) {
		if got, ok := whole.Small(a); got != 0 || ok {
			t.Errorf("%s is %d, %v", brief(a), got, ok)
		}
	}
	if got, ok := whole.Small(api.Whole{Neg: true, Mag: "\x80\x00\x00\x00\x00\x00\x00\x00"}); got != math.MinInt64 || !ok {
		t.Errorf("-2^63 is %d, %v", got, ok)
	}
}

func TestSignAndBits(t *testing.T) { // P2.1
	for _, n := range edges() {
		if got := whole.Sign(number(n)); got != n.Sign() {
			t.Errorf("the sign of %v is %d", n, got)
		}
		if got := whole.Bits(number(n)); got != n.BitLen() {
			t.Errorf("%v has %d bits", n, got)
		}
	}
	if whole.Sign(top()) != 1 || whole.Sign(below(top())) != -1 || whole.Bits(below(top())) != topBits {
		t.Error("of the greatest number")
	}
	if got := whole.Bits(small(-256)); got != 9 {
		t.Errorf("-256 has %d bits", got)
	}
	for _, a := range wrong() {
		if whole.Sign(a) != 0 || whole.Bits(a) != 0 {
			t.Errorf("%q: %d, %d", a.Mag[:min(len(a.Mag), 9)], whole.Sign(a), whole.Bits(a))
		}
	}
}

func TestBit(t *testing.T) { // P2.1
	for _, n := range edges() {
		mag := new(big.Int).Abs(n)
		for i := range mag.BitLen() + 20 {
			if got, e := whole.Bit(number(n), i); got != int(mag.Bit(i)) || e != api.OK {
				t.Fatalf("the bit %d of %v is %d, %v", i, n, got, e)
			}
		}
	}
	for _, x := range []struct {
		a    api.Whole
		i    int
		want int
		e    api.Errno
	}{
		{small(-256), 8, 1, api.OK}, {small(5), -1, 0, api.ErrArg}, {api.Whole{}, -1, 0, api.ErrArg}, {small(5), math.MinInt, 0, api.ErrArg},
		{api.Whole{}, 0, 0, api.OK}, {small(-1), math.MaxInt, 0, api.OK}, {top(), topBits - 1, 1, api.OK}, {top(), topBits, 0, api.OK},
	} {
		if got, e := whole.Bit(x.a, x.i); got != x.want || e != x.e {
			t.Errorf("the bit %d of %s is %d, %v", x.i, brief(x.a), got, e)
		}
	}
	for _, a := range wrong() {
		for _, i := range []int{-1, 0, 3, math.MaxInt} {
			if got, e := whole.Bit(a, i); got != 0 || e != api.ErrArg {
				t.Errorf("the bit %d of %q is %d, %v", i, a.Mag[:min(len(a.Mag), 9)], got, e)
			}
		}
	}
}

func TestCmp(t *testing.T) { // P2.2
	pairs(t, func(a, b *big.Int) {
		if got, e := whole.Cmp(number(a), number(b)); got != a.Cmp(b) || e != api.OK {
			t.Errorf("%v against %v is %d, %v", a, b, got, e)
		}
	})
	less := api.Whole{Mag: strings.Repeat("\xff", api.MaxWide-1) + "\xfe"}
	if got, e := whole.Cmp(less, top()); got != -1 || e != api.OK {
		t.Errorf("the greatest two: %d, %v", got, e)
	}
	if got, e := whole.Cmp(below(less), below(top())); got != 1 || e != api.OK {
		t.Errorf("the least two: %d, %v", got, e)
	}
	for _, a := range wrong() {
		for _, b := range append(good(), a) {
			x, e := whole.Cmp(a, b)
			y, f := whole.Cmp(b, a)
			if x != 0 || y != 0 || e != api.ErrArg || f != api.ErrArg {
				t.Errorf("a wrong one and %s: %d, %v; %d, %v", brief(b), x, e, y, f)
			}
		}
	}
}

func TestNegAndAbs(t *testing.T) { // P2.2
	for _, n := range append(edges(), bigOf(top()), bigOf(below(top()))) {
		got, e := whole.Neg(number(n))
		want(t, "the opposite", got, e, number(new(big.Int).Neg(n)))
		got, e = whole.Abs(number(n))
		want(t, "the magnitude", got, e, number(new(big.Int).Abs(n)))
	}
	for _, a := range wrong() {
		got, e := whole.Neg(a)
		wantRefused(t, "the opposite of a wrong one", got, e, api.ErrArg)
		got, e = whole.Abs(a)
		wantRefused(t, "the magnitude of a wrong one", got, e, api.ErrArg)
	}
}
