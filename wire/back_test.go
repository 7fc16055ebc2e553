package wire_test

import (
	"bytes"
	"math"
	"strings"
	"testing"

	"tracery/api"
	"tracery/wire"
)

// wantBack reads what was written, with some bytes ahead and behind.
func wantBack[T comparable](t *testing.T, x T, form []byte, read func(*wire.Reader) (T, api.Errno)) {
	t.Helper()
	r := wire.Open(append(append([]byte{7}, form...), 0xff, 0x80))
	r.Number()
	got, e := read(r)
	if got != x || e != api.OK {
		t.Errorf("%v is read as %v, %v", x, got, e)
	}
	if r.Place() != 1+len(form) || r.Left() != 2 {
		t.Errorf("behind %v: at %d, %d left", x, r.Place(), r.Left())
	}
}

func TestNumbersThereAndBack(t *testing.T) { // P1.5
	for _, n := range edgeNumbers() {
		wantBack(t, n, wire.Number(n), (*wire.Reader).Number)
		for _, s := range []int64{int64(n), -int64(n), int64(n >> 1), -int64(n >> 1)} {
			wantBack(t, s, wire.Signed(s), (*wire.Reader).Signed)
		}
	}
	for n := uint64(0); n < 1<<15; n++ {
		wantBack(t, n, wire.Number(n), (*wire.Reader).Number)
		wantBack(t, int64(n)-1<<14, wire.Signed(int64(n)-1<<14), (*wire.Reader).Signed)
	}
}

func edgeFloats() []float64 {
	l := []float64{0, 1, 1.5, math.Pi, math.MaxFloat64, math.SmallestNonzeroFloat64, 0x1p-1022, 0x1p400, math.Inf(1)}
	for _, x := range l {
		l = append(l, -x)
	}
	return append(l, negativeZero, math.NaN(), math.Float64frombits(0xffffffffffffffff))
}

func alike(x, y float64) bool {
	return math.Float64bits(x) == math.Float64bits(y) || x != x && y != y
}

func TestFloatsThereAndBack(t *testing.T) { // P1.5
	for _, x := range edgeFloats() {
		r := wire.Open(append(wire.Float(x), 1))
		if got, e := r.Float(); !alike(got, x) || e != api.OK || r.Place() != 8 {
			t.Errorf("%v is read as %v, %v, at %d", x, got, e, r.Place())
		}
		for _, y := range edgeFloats() {
			pair := []float64{x, y}
			z := append([]byte{2}, append(wire.Float(x), wire.Float(y)...)...)
			if l, e := wire.Take(wire.Open(z), 2, (*wire.Reader).Float); e != api.OK || !alike(l[0], x) || !alike(l[1], y) {
				t.Errorf("%v is read as %v, %v", pair, l, e)
			}
			r := wire.Open(append(z[1:], 1))
			got, e := r.Complex()
			if e != api.OK || !alike(real(got), x) || !alike(imag(got), y) || r.Place() != 16 {
				t.Errorf("%v is read as %v, %v, at %d", pair, got, e, r.Place())
			}
			if back := wire.Complex(got); !bytes.Equal(back, z[1:]) {
				t.Errorf("% x is written again as % x", z[1:], back)
			}
		}
	}
}

func TestTextsThereAndBack(t *testing.T) { // P1.5
	for _, n := range []int{0, 1, 127, 128, 129, 16383, 16384} {
		s := strings.Repeat("\xc3", n)
		wantBack(t, s, wire.Text(s), func(r *wire.Reader) (string, api.Errno) { return r.Text(n) })
	}
}

func TestExactThereAndBack(t *testing.T) { // P1.5
	most, part := wide(api.MaxWide), wide(api.MaxWhole)
	less := api.Whole{Neg: true, Mag: part.Mag}
	for _, w := range []api.Whole{whole(0), whole(1), whole(-1), whole(255), whole(256), whole(-65536), most, {Neg: true, Mag: most.Mag}} {
		b, e := wire.Whole(w)
		if e != api.OK {
			t.Errorf("Whole answers %v", e)
		}
		wantBack(t, w, b, (*wire.Reader).Whole)
	}
	l := []api.Frac{frac(0, 1), frac(0, 9), frac(-1, 2), frac(2, 4), {Num: less, Den: part}, {Num: part, Den: whole(1)}}
	for _, x := range l {
		b, e := wire.Frac(x)
		if e != api.OK {
			t.Errorf("Frac answers %v", e)
		}
		wantBack(t, x, b, (*wire.Reader).Frac)
		for _, y := range l {
			z := api.Gauss{Re: x, Im: y}
			b, e := wire.Gauss(z)
			if e != api.OK {
				t.Errorf("Gauss answers %v", e)
			}
			wantBack(t, z, b, (*wire.Reader).Gauss)
		}
	}
}

func TestListsThereAndBack(t *testing.T) { // P1.5
	for _, n := range []int{0, 1, 127, 128, api.MaxList} {
		l := make([]int64, n)
		for i := range l {
			l[i] = int64(i*i) - 1000
		}
		b, _ := wire.Put(l, wire.Signed)
		r := wire.Open(b)
		got, e := wire.Take(r, n, (*wire.Reader).Signed)
		if e != api.OK || len(got) != n || r.Left() != 0 {
			t.Fatalf("a list of %d is read as one of %d, %v", n, len(got), e)
		}
		for i := range l {
			if got[i] != l[i] {
				t.Fatalf("thing %d is read as %d", l[i], got[i])
			}
		}
	}
}

// sameAgain: bytes that are read are those that are written of what was read.
func sameAgain[T any](t *testing.T, b []byte, read func(*wire.Reader) (T, api.Errno), write func(T) []byte) {
	t.Helper()
	r := wire.Open(b)
	x, e := read(r)
	if e != api.OK {
		if r.Place() != 0 {
			t.Fatalf("of % x: %v, at %d", b, e, r.Place())
		}
		return
	}
	if again := write(x); !bytes.Equal(again, b[:r.Place()]) {
		t.Fatalf("% x is read as %v and written as % x", b, x, again)
	}
}

func TestReadBytesAreTheWrittenOnes(t *testing.T) { // P1.5
	text := func(r *wire.Reader) (string, api.Errno) { return r.Text(9) }
	list := func(r *wire.Reader) ([]uint64, api.Errno) { return wire.Take(r, 9, (*wire.Reader).Number) }
	putWhole := func(w api.Whole) []byte { b, _ := wire.Whole(w); return b }
	putFrac := func(x api.Frac) []byte { b, _ := wire.Frac(x); return b }
	putGauss := func(z api.Gauss) []byte { b, _ := wire.Gauss(z); return b }
	putList := func(l []uint64) []byte { b, _ := wire.Put(l, wire.Number); return b }
	digits := []byte{0, 1, 2, 3, 4, 0x7f, 0x80, 0x81, 0xff}
	b := make([]byte, 6)
	for i := range 9 * 9 * 9 * 9 * 9 * 9 {
		for j := range b {
			b[j] = digits[i%9]
			i /= 9
		}
		sameAgain(t, b, (*wire.Reader).Number, wire.Number)
		sameAgain(t, b, (*wire.Reader).Signed, wire.Signed)
		sameAgain(t, b, text, wire.Text)
		sameAgain(t, b, (*wire.Reader).Whole, putWhole)
		sameAgain(t, b, (*wire.Reader).Frac, putFrac)
		sameAgain(t, b, (*wire.Reader).Gauss, putGauss)
		sameAgain(t, b, list, putList)
	}
	for _, bits := range []uint64{0, 1 << 63, 0x7ff0000000000000, 0xfff0000000000000, 0x7ff8000000000000, 0x7ff8000000000001, 0xfff8000000000000, 1} {
		form := make([]byte, 8)
		for i := range form {
			form[i] = byte(bits >> (56 - 8*i))
		}
		sameAgain(t, form, (*wire.Reader).Float, wire.Float)
	}
}

func TestOrderOfForms(t *testing.T) { // P1.5
	greater := func(a, b []byte) bool {
		return len(a) > len(b) || len(a) == len(b) && bytes.Compare(a, b) > 0
	}
	l := edgeNumbers()
	for _, n := range l {
		for _, m := range l {
			a, b := wire.Number(n), wire.Number(m)
			if greater(a, b) != (n > m) {
				t.Errorf("% x and % x stand in another order than %d and %d", a, b, n, m)
			}
			if n != m && bytes.HasPrefix(a, b) {
				t.Errorf("% x is the beginning of % x", b, a)
			}
		}
	}
}

func TestNoFormBeginsAnother(t *testing.T) { // P1.5
	var texts, wholes, fracs [][]byte
	for _, s := range []string{"", "a", "ab", "a\x00", "\x00", "\x01a", strings.Repeat("a", 128)} {
		texts = append(texts, wire.Text(s))
	}
	for _, n := range []int64{0, 1, -1, 5, -5, 256, -256, 257, 65536} {
		b, _ := wire.Whole(whole(n))
		wholes = append(wholes, b)
		for _, d := range []int64{1, 2, 256} {
			b, _ := wire.Frac(frac(n, d))
			fracs = append(fracs, b)
		}
	}
	for _, forms := range [][][]byte{texts, wholes, fracs} {
		for i, a := range forms {
			for j, b := range forms {
				if i != j && bytes.HasPrefix(a, b) {
					t.Errorf("% x is the beginning of % x", b, a)
				}
			}
		}
	}
}
