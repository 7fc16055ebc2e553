package wire_test

import (
	"bytes"
	"math"
	"math/big"
	"strings"
	"testing"

	"tracery/api"
	"tracery/wire"
)

func whole(n int64) api.Whole {
	b := big.NewInt(n)
	return api.Whole{Neg: n < 0, Mag: string(b.Bytes())}
}

func frac(num, den int64) api.Frac { return api.Frac{Num: whole(num), Den: whole(den)} }

func wide(n int) api.Whole { return api.Whole{Mag: strings.Repeat("\x01", n)} }

var negativeZero = math.Copysign(0, -1)

// edgeNumbers are those beside which a form grows by a byte, and the ends.
func edgeNumbers() []uint64 {
	l := []uint64{0, 1, 2, 5, 300, 1 << 63, 1<<63 - 1, 1<<63 + 1, math.MaxUint64 - 1, math.MaxUint64}
	for bit := 7; bit < 64; bit += 7 {
		l = append(l, 1<<bit-1, 1<<bit, 1<<bit+1)
	}
	return l
}

// numberForm reckons the form anew, from the document's words.
func numberForm(n *big.Int) []byte {
	var digits []byte
	base, rest := big.NewInt(128), new(big.Int).Set(n)
	for {
		digit := new(big.Int)
		rest.DivMod(rest, base, digit)
		digits = append([]byte{byte(digit.Int64())}, digits...)
		if rest.Sign() == 0 {
			break
		}
	}
	for i := range digits[:len(digits)-1] {
		digits[i] += 128
	}
	return digits
}

func wantBytes(t *testing.T, what string, got []byte, want string) {
	t.Helper()
	if string(got) != want {
		t.Errorf("%s is % x, want % x", what, got, want)
	}
}

func wantWritten(t *testing.T, what string, got []byte, e api.Errno, want string) {
	t.Helper()
	if e != api.OK {
		t.Errorf("%s answers %v", what, e)
	}
	wantBytes(t, what, got, want)
}

func wantRefused(t *testing.T, what string, got []byte, e, want api.Errno) {
	t.Helper()
	if e != want || got != nil {
		t.Errorf("%s answers % x and %v, want nothing and %v", what, got, e, want)
	}
}

func TestNumberForms(t *testing.T) { // P1.1
	for _, x := range []struct {
		n    uint64
		want string
	}{
		{0, "\x00"}, {127, "\x7f"}, {128, "\x81\x00"}, {16383, "\xff\x7f"}, {16384, "\x81\x80\x00"},
		{math.MaxUint64, "\x81\xff\xff\xff\xff\xff\xff\xff\xff\x7f"},
	} {
		wantBytes(t, "Number", wire.Number(x.n), x.want)
	}
	for _, n := range edgeNumbers() {
		got := wire.Number(n)
		wantBytes(t, "Number", got, string(numberForm(new(big.Int).SetUint64(n))))
		if len(got) > 10 {
			t.Errorf("Number(%d) has %d bytes", n, len(got))
		}
	}
}

func TestSignedForms(t *testing.T) { // P1.1
	for _, x := range []struct {
		n    int64
		want string
	}{
		{0, "\x00"}, {-1, "\x01"}, {1, "\x02"}, {-64, "\x7f"}, {64, "\x81\x00"},
		{math.MaxInt64, "\x81\xff\xff\xff\xff\xff\xff\xff\xff\x7e"},
		{math.MinInt64, "\x81\xff\xff\xff\xff\xff\xff\xff\xff\x7f"},
	} {
		wantBytes(t, "Signed", wire.Signed(x.n), x.want)
	}
	for n := int64(-70000); n < 70000; n += 37 {
		want := big.NewInt(2 * n)
		if n < 0 {
			want = big.NewInt(-2*n - 1)
		}
		wantBytes(t, "Signed", wire.Signed(n), string(numberForm(want)))
	}
}

func TestFloatForms(t *testing.T) { // P1.1
	for _, x := range []struct {
		x    float64
		want string
	}{
		{1, "\x3f\xf0\x00\x00\x00\x00\x00\x00"},
		{0, "\x00\x00\x00\x00\x00\x00\x00\x00"},
		{negativeZero, "\x80\x00\x00\x00\x00\x00\x00\x00"},
		{math.Inf(1), "\x7f\xf0\x00\x00\x00\x00\x00\x00"},
		{math.Inf(-1), "\xff\xf0\x00\x00\x00\x00\x00\x00"},
		{math.SmallestNonzeroFloat64, "\x00\x00\x00\x00\x00\x00\x00\x01"},
		{math.Float64frombits(0x0123456789abcdef), "\x01\x23\x45\x67\x89\xab\xcd\xef"},
	} {
		wantBytes(t, "Float", wire.Float(x.x), x.want)
	}
	for _, bits := range []uint64{0x7ff8000000000000, 0x7ff8000000000001, 0xfff8000000000000, 0x7ff0000000000001, math.MaxUint64} {
		wantBytes(t, "Float of a NaN", wire.Float(math.Float64frombits(bits)), "\x7f\xf8\x00\x00\x00\x00\x00\x00")
	}
}

func TestComplexForms(t *testing.T) { // P1.1
	nan := math.Float64frombits(0xfff8000000000007)
	wantBytes(t, "Complex", wire.Complex(complex(1, negativeZero)), "\x3f\xf0\x00\x00\x00\x00\x00\x00\x80\x00\x00\x00\x00\x00\x00\x00")
	wantBytes(t, "Complex", wire.Complex(complex(nan, 1)), "\x7f\xf8\x00\x00\x00\x00\x00\x00\x3f\xf0\x00\x00\x00\x00\x00\x00")
	wantBytes(t, "Complex", wire.Complex(complex(math.Inf(-1), nan)), "\xff\xf0\x00\x00\x00\x00\x00\x00\x7f\xf8\x00\x00\x00\x00\x00\x00")
}

func TestTextForms(t *testing.T) { // P1.1
	wantBytes(t, "Text", wire.Text("ab"), "\x02ab")
	wantBytes(t, "Text of nothing", wire.Text(""), "\x00")
	wantBytes(t, "Text of no runes", wire.Text("\xff\x00\x80"), "\x03\xff\x00\x80")
	long := strings.Repeat("x", 128)
	wantBytes(t, "Text of 127", wire.Text(long[1:]), "\x7f"+long[1:])
	wantBytes(t, "Text of 128", wire.Text(long), "\x81\x00"+long)
}

func TestWholeForms(t *testing.T) { // P1.1
	most := wide(api.MaxWide)
	for _, x := range []struct {
		w    api.Whole
		want string
	}{
		{whole(0), "\x00"}, {whole(5), "\x02\x05"}, {whole(-5), "\x03\x05"}, {whole(256), "\x04\x01\x00"},
		{api.Whole{Neg: true, Mag: "\xff"}, "\x03\xff"},
		{most, "\x82\x80\x00" + most.Mag},
		{api.Whole{Neg: true, Mag: most.Mag}, "\x82\x80\x01" + most.Mag},
	} {
		got, e := wire.Whole(x.w)
		wantWritten(t, "Whole", got, e, x.want)
	}
	for _, w := range []api.Whole{{Neg: true}, {Mag: "\x00"}, {Mag: "\x00\x01"}, {Neg: true, Mag: "\x00"}, wide(api.MaxWide + 1), {Mag: strings.Repeat("\x00", api.MaxWide+1)}} {
		got, e := wire.Whole(w)
		wantRefused(t, "Whole of what is not plain", got, e, api.ErrArg)
	}
}

func notPlainFracs() []api.Frac {
	one := whole(1)
	return []api.Frac{
		{}, {Num: one}, frac(1, -2), {Num: one, Den: api.Whole{Neg: true}},
		{Num: api.Whole{Neg: true}, Den: one}, {Num: api.Whole{Mag: "\x00\x01"}, Den: one}, {Num: one, Den: api.Whole{Mag: "\x00\x01"}},
		{Num: wide(api.MaxWhole + 1), Den: one}, {Num: one, Den: wide(api.MaxWhole + 1)},
		{Num: wide(api.MaxWide + 1), Den: one},
	}
}

func TestFracForms(t *testing.T) { // P1.1
	most := wide(api.MaxWhole)
	for _, x := range []struct {
		x    api.Frac
		want string
	}{
		{frac(-1, 2), "\x03\x01\x02\x02"}, {frac(2, 4), "\x02\x02\x02\x04"}, {frac(0, 1), "\x00\x02\x01"}, {frac(0, 7), "\x00\x02\x07"},
		{api.Frac{Num: most, Den: most}, "\x90\x00" + most.Mag + "\x90\x00" + most.Mag},
	} {
		got, e := wire.Frac(x.x)
		wantWritten(t, "Frac", got, e, x.want)
	}
	for _, x := range notPlainFracs() {
		got, e := wire.Frac(x)
		wantRefused(t, "Frac of what is not plain", got, e, api.ErrArg)
	}
}

func TestGaussForms(t *testing.T) { // P1.1
	got, e := wire.Gauss(api.Gauss{Re: frac(-1, 2), Im: frac(256, 3)})
	wantWritten(t, "Gauss", got, e, "\x03\x01\x02\x02\x04\x01\x00\x02\x03")
	for _, x := range notPlainFracs() {
		got, e := wire.Gauss(api.Gauss{Re: x, Im: frac(1, 2)})
		wantRefused(t, "Gauss of a Re that is not plain", got, e, api.ErrArg)
		got, e = wire.Gauss(api.Gauss{Re: frac(1, 2), Im: x})
		wantRefused(t, "Gauss of an Im that is not plain", got, e, api.ErrArg)
	}
}

func TestPut(t *testing.T) { // P1.1
	got, e := wire.Put([]int64{1, -1}, wire.Signed)
	wantWritten(t, "Put", got, e, "\x02\x02\x01")
	got, e = wire.Put(nil, wire.Text)
	wantWritten(t, "Put of nil", got, e, "\x00")
	got, e = wire.Put([]string{}, wire.Text)
	wantWritten(t, "Put of nothing", got, e, "\x00")
	got, e = wire.Put(make([]int, 128), func(int) []byte { return nil })
	wantWritten(t, "Put of 128 that write nothing", got, e, "\x81\x00")
	got, e = wire.Put[int]([]int{1}, nil)
	wantRefused(t, "Put without a function", got, e, api.ErrNil)
	got, e = wire.Put[int](nil, nil)
	wantRefused(t, "Put of nothing without a function", got, e, api.ErrNil)
}

func TestPutKeepsWhatIsHandedIn(t *testing.T) { // P1.1
	room := []byte{1, 2, 3}
	same := make([]byte, 1, 64)
	got, e := wire.Put(room[:2:3], func(b byte) []byte {
		same[0] = b
		return same
	})
	wantWritten(t, "Put by one buffer", got, e, "\x02\x01\x02")
	wantBytes(t, "the list behind Put", room, "\x01\x02\x03")
	clear(got[:cap(got)])
	wantBytes(t, "the buffer behind Put", same[:2], "\x02\x00")
}

// written are the forms of many things, made anew at each call.
func written() [][]byte {
	big, _ := wire.Whole(whole(-70000))
	half, _ := wire.Frac(frac(1, 2))
	both, _ := wire.Gauss(api.Gauss{Re: frac(1, 2), Im: frac(0, 1)})
	list, _ := wire.Put([]string{"a", "b"}, wire.Text)
	return [][]byte{wire.Number(0), wire.Number(300), wire.Signed(-300), wire.Float(1), wire.Complex(1i), wire.Text("abc"), big, half, both, list}
}

func TestAnswersAreNewMemory(t *testing.T) { // the rules that hold everywhere
	first, second, want := written(), written(), written()
	for i, b := range first {
		b = b[:cap(b)]
		for j := range b {
			b[j] ^= 0xff
		}
		for j := range second {
			if !bytes.Equal(second[j], want[j]) {
				t.Fatalf("answer %d shares memory with answer %d", j, i)
			}
		}
	}
	for i, b := range written() {
		if !bytes.Equal(b, want[i]) {
			t.Errorf("answer %d hangs on what became of an earlier one", i)
		}
	}
}
