package wire_test

import (
	"math"
	"strings"
	"testing"

	"tracery/api"
	"tracery/wire"
)

// reading is a way to read, its answer told as whether it is zero.
type reading struct {
	name string
	do   func(*wire.Reader) (zero bool, e api.Errno)
}

func by[T comparable](name string, read func(*wire.Reader) (T, api.Errno)) reading {
	return reading{name, func(r *wire.Reader) (bool, api.Errno) {
		x, e := read(r)
		var none T
		return x == none, e
	}}
}

func text(most int) reading {
	return by("Text", func(r *wire.Reader) (string, api.Errno) { return r.Text(most) })
}

func take(most int) reading { return takeBy(most, (*wire.Reader).Number) }

func takeBy[T any](most int, one func(*wire.Reader) (T, api.Errno)) reading {
	return reading{"Take", func(r *wire.Reader) (bool, api.Errno) {
		l, e := wire.Take(r, most, one)
		return l == nil, e
	}}
}

var (
	number    = by("Number", (*wire.Reader).Number)
	signed    = by("Signed", (*wire.Reader).Signed)
	float     = by("Float", (*wire.Reader).Float)
	complexes = by("Complex", (*wire.Reader).Complex)
	wholes    = by("Whole", (*wire.Reader).Whole)
	fracs     = by("Frac", (*wire.Reader).Frac)
	gausses   = by("Gauss", (*wire.Reader).Gauss)
)

// wantStay asks for the error, for zero beside it, and that the reader, which
// has gone some bytes before, stays and still reads what stands there.
func wantStay(t *testing.T, x reading, b string, want api.Errno) {
	t.Helper()
	r := wire.Open([]byte("\x02ab" + b))
	if _, e := r.Text(2); e != api.OK {
		t.Fatal(e)
	}
	for range 2 {
		zero, e := x.do(r)
		if e != want || !zero {
			t.Errorf("%s of % x answers %v (zero beside it: %v), want %v", x.name, b, e, zero, want)
		}
		if r.Place() != 3 || r.Left() != len(b) {
			t.Errorf("%s of % x goes to %d, with %d left", x.name, b, r.Place(), r.Left())
		}
	}
}

func TestOpen(t *testing.T) { // P1.2
	b := []byte{5, 0x81, 0, 7}
	r := wire.Open(b[:3])
	clear(b)
	for i, want := range []uint64{5, 128} {
		if n, e := r.Number(); n != want || e != api.OK {
			t.Errorf("number %d of bytes that were changed behind Open: %d, %v", i, n, e)
		}
		if r.Place() != 1+2*i || r.Left() != 2-2*i {
			t.Errorf("behind number %d: at %d, %d left", i, r.Place(), r.Left())
		}
	}
	if _, e := r.Number(); e != api.ErrEnd {
		t.Errorf("behind the end: %v", e)
	}
	other := wire.Open([]byte{1, 2})
	if _, e := other.Number(); e != api.OK || other.Place() != 1 || r.Place() != 3 {
		t.Errorf("two readers: %v, at %d and %d", e, other.Place(), r.Place())
	}
}

func TestOpenOfNothing(t *testing.T) { // P1.2
	for _, b := range [][]byte{nil, {}} {
		r := wire.Open(b)
		if r == nil || r.Place() != 0 || r.Left() != 0 {
			t.Fatalf("a reader of nothing is %v", r)
		}
		if _, e := r.Number(); e != api.ErrEnd {
			t.Errorf("Number of nothing: %v", e)
		}
	}
}

func TestNoReader(t *testing.T) { // P1.2, P1.3, P1.4
	for _, r := range []*wire.Reader{nil, {}, new(wire.Reader)} {
		if r.Place() != 0 || r.Left() != 0 {
			t.Errorf("no reader is at %d, %d left", r.Place(), r.Left())
		}
		for _, x := range []reading{number, signed, float, complexes, text(1), text(-1), wholes, fracs, gausses, take(1), take(-1), takeBy[int](-1, nil)} {
			if zero, e := x.do(r); e != api.ErrNil || !zero {
				t.Errorf("%s of no reader: %v", x.name, e)
			}
		}
	}
}

func TestNumberRefused(t *testing.T) { // P1.3
	marks := strings.Repeat("\x80", 8)
	for _, x := range []struct {
		b    string
		want api.Errno
	}{
		{"", api.ErrEnd}, {"\x81", api.ErrEnd}, {"\xff\xff", api.ErrEnd},
		{"\x80", api.ErrForm}, {"\x80\x01", api.ErrForm}, {"\x80\x00", api.ErrForm},
		{"\x82" + marks + "\x00", api.ErrForm},
		{"\x82" + marks + "\x80", api.ErrForm},
		{"\x82" + marks, api.ErrEnd},
		{"\xff" + marks, api.ErrEnd},
		{"\x81" + marks + "\x80", api.ErrEnd},
		{"\x81" + marks + "\xff", api.ErrEnd},
		{"\x81" + marks + "\x80\x00", api.ErrForm},
		{"\x81" + marks + "\xff\xff\xff", api.ErrForm},
	} {
		wantStay(t, number, x.b, x.want)
		wantStay(t, signed, x.b, x.want)
		wantStay(t, text(math.MaxInt), x.b, x.want)
		wantStay(t, take(math.MaxInt), x.b, x.want)
		wantStay(t, wholes, x.b, x.want)
		wantStay(t, fracs, x.b, x.want)
		wantStay(t, gausses, x.b, x.want)
	}
}

func TestFloatRefused(t *testing.T) { // P1.3
	one, nan, infinity := "\x3f\xf0\x00\x00\x00\x00\x00\x00", "\x7f\xf8\x00\x00\x00\x00\x00\x01", "\x7f\xf0\x00\x00\x00\x00\x00\x00"
	for _, x := range []struct {
		b    string
		want api.Errno
	}{
		{"", api.ErrEnd}, {one[:7], api.ErrEnd}, {nan[:7], api.ErrEnd}, {nan, api.ErrForm},
		{"\xff\xf8\x00\x00\x00\x00\x00\x00", api.ErrForm}, {infinity[:7] + "\x01", api.ErrForm}, {"\xff" + nan[1:7] + "\xff", api.ErrForm},
	} {
		wantStay(t, float, x.b, x.want)
		wantStay(t, complexes, x.b, x.want)
		wantStay(t, complexes, one+x.b, x.want)
		wantStay(t, complexes, infinity+x.b, x.want)
	}
	wantStay(t, complexes, nan+one[:3], api.ErrForm)
	wantStay(t, complexes, nan+nan, api.ErrForm)
}

func TestTextRefused(t *testing.T) { // P1.3
	wantStay(t, text(-1), "\x02ab", api.ErrArg)
	wantStay(t, text(-1), "", api.ErrArg)
	wantStay(t, text(-1), "\x80", api.ErrArg)
	wantStay(t, text(math.MinInt), "\x00", api.ErrArg)
	wantStay(t, text(1), "\x02ab", api.ErrLong)
	wantStay(t, text(1), "\x02", api.ErrLong)
	wantStay(t, text(0), "\x01a", api.ErrLong)
	wantStay(t, text(2), "\x02a", api.ErrEnd)
	wantStay(t, text(math.MaxInt), "\x03ab", api.ErrEnd)
	huge := string(wire.Number(math.MaxUint64))
	wantStay(t, text(math.MaxInt), huge+"a", api.ErrLong)
	wantStay(t, text(math.MaxInt), string(wire.Number(math.MaxInt))+"a", api.ErrEnd)
	wantStay(t, text(math.MaxInt), string(wire.Number(1<<63))+"a", api.ErrLong)
}

func TestTextRead(t *testing.T) { // P1.3
	r := wire.Open([]byte("\x02ab\x00\x01\xff"))
	for i, want := range []string{"ab", "", "\xff"} {
		if s, e := r.Text(len(want)); s != want || e != api.OK {
			t.Errorf("text %d is %q, %v", i, s, e)
		}
	}
	if r.Place() != 6 || r.Left() != 0 {
		t.Errorf("behind the texts: at %d, %d left", r.Place(), r.Left())
	}
}

func TestWholeRefused(t *testing.T) { // P1.3
	past := wide(api.MaxWide + 1).Mag
	for _, x := range []struct {
		b    string
		want api.Errno
	}{
		{"\x01", api.ErrForm}, {"\x02\x00", api.ErrForm}, {"\x03\x00", api.ErrForm}, {"\x04\x00\x01", api.ErrForm},
		{"\x02", api.ErrEnd}, {"\x04\x01", api.ErrEnd}, {"\x04\x00", api.ErrEnd},
		{"\x82\x80\x00" + past[2:], api.ErrEnd},
		{"\x82\x80\x02" + past, api.ErrForm}, {"\x82\x80\x02", api.ErrForm}, {"\x82\x80\x03" + past, api.ErrForm},
		{string(wire.Number(math.MaxUint64)), api.ErrForm},
	} {
		wantStay(t, wholes, x.b, x.want)
		wantStay(t, fracs, x.b, x.want)
		wantStay(t, fracs, "\x02\x01"+x.b, x.want)
		wantStay(t, gausses, "\x02\x01\x02\x03"+x.b, x.want)
		wantStay(t, gausses, "\x02\x01\x02\x03\x00"+x.b, x.want)
	}
}

func TestFracRefused(t *testing.T) { // P1.3
	past := "\x90\x02" + wide(api.MaxWhole+1).Mag
	for _, x := range []struct {
		b    string
		want api.Errno
	}{
		{"\x02\x01\x00", api.ErrForm}, {"\x02\x01\x03\x02", api.ErrForm}, {"\x00\x00", api.ErrForm},
		{past + "\x02\x01", api.ErrForm}, {"\x02\x01" + past, api.ErrForm},
		{past, api.ErrEnd}, {past + "\x02", api.ErrEnd}, {past + "\x80", api.ErrForm},
		{"\x02\x01", api.ErrEnd}, {"\x02\x00\x02", api.ErrForm}, {"\x01\x02", api.ErrForm},
	} {
		wantStay(t, fracs, x.b, x.want)
		wantStay(t, gausses, x.b, x.want)
		wantStay(t, gausses, "\x03\x01\x02\x02"+x.b, x.want)
	}
	wantStay(t, gausses, "\x02\x01\x00\x02", api.ErrForm)
}

func TestTake(t *testing.T) { // P1.4
	r := wire.Open([]byte{2, 5, 0x81, 0, 9, 0, 1})
	l, e := wire.Take(r, 9, (*wire.Reader).Number)
	if e != api.OK || len(l) != 2 || l[0] != 5 || l[1] != 128 || r.Place() != 4 {
		t.Fatalf("Take is %v, %v, at %d", l, e, r.Place())
	}
	if n, e := r.Number(); n != 9 || e != api.OK {
		t.Errorf("behind the list stands %d, %v", n, e)
	}
	if l, e := wire.Take(r, 0, (*wire.Reader).Number); len(l) != 0 || e != api.OK || r.Place() != 6 {
		t.Errorf("Take of no things is %v, %v, at %d", l, e, r.Place())
	}
	if l, e := wire.Take(wire.Open([]byte{2, 5, 6}), 2, (*wire.Reader).Signed); e != api.OK || len(l) != 2 || l[0] != -3 || l[1] != 3 {
		t.Errorf("Take of as many as may be is %v, %v", l, e)
	}
}

func TestTakeHandsThisReader(t *testing.T) { // P1.4
	r := wire.Open([]byte{3, 7, 8, 9})
	var places []int
	l, e := wire.Take(r, 3, func(x *wire.Reader) (int, api.Errno) {
		if x != r {
			t.Error("another reader")
		}
		places = append(places, x.Place())
		n, e := x.Number()
		return int(n) * 10, e
	})
	if e != api.OK || len(l) != 3 || l[0] != 70 || l[1] != 80 || l[2] != 90 {
		t.Errorf("Take is %v, %v", l, e)
	}
	if len(places) != 3 || places[0] != 1 || places[1] != 2 || places[2] != 3 {
		t.Errorf("one was called at %v", places)
	}
}

func TestTakeOfLists(t *testing.T) { // P1.4
	inner := func(r *wire.Reader) ([]string, api.Errno) {
		return wire.Take(r, 2, func(r *wire.Reader) (string, api.Errno) { return r.Text(1) })
	}
	good, long, short := "\x02\x02\x01a\x00\x01\x01b", "\x02\x02\x01a\x00\x03", "\x02\x02\x01a\x00\x01\x01"
	r := wire.Open([]byte(good))
	l, e := wire.Take(r, 2, inner)
	if e != api.OK || len(l) != 2 || strings.Join(l[0], ",") != "a," || strings.Join(l[1], ",") != "b" || r.Left() != 0 {
		t.Errorf("a list of lists is %q, %v", l, e)
	}
	wantStay(t, takeBy(2, inner), long, api.ErrLong)
	wantStay(t, takeBy(2, inner), short, api.ErrEnd)
}

func TestTakeRefused(t *testing.T) { // P1.4
	wantStay(t, takeBy[int](9, nil), "\x01\x01", api.ErrNil)
	wantStay(t, takeBy[int](-1, nil), "\x00", api.ErrNil)
	wantStay(t, take(-1), "\x00", api.ErrArg)
	wantStay(t, take(-1), "\x80", api.ErrArg)
	wantStay(t, take(math.MinInt), "", api.ErrArg)
	wantStay(t, take(1), "\x02\x05\x06", api.ErrLong)
	wantStay(t, take(1), "\x02", api.ErrLong)
	wantStay(t, take(0), "\x01\x05", api.ErrLong)
	wantStay(t, take(math.MaxInt), string(wire.Number(1<<63)), api.ErrLong)
	wantStay(t, take(math.MaxInt), string(wire.Number(math.MaxInt))+"\x05\x06", api.ErrEnd)
	wantStay(t, take(9), "\x03\x05\x80\x81", api.ErrForm)
	wantStay(t, take(9), "\x03\x05\x06\x81", api.ErrEnd)
}

func TestTakeEndsAtTheFirstError(t *testing.T) { // P1.4
	calls := 0
	own := func(r *wire.Reader) (int, api.Errno) {
		calls++
		r.Text(9)
		if calls%2 == 0 {
			return 5, api.Errno(999)
		}
		return 5, api.OK
	}
	wantStay(t, takeBy(4, own), "\x04\x01a\x01b\x01c\x01d", api.Errno(999))
	if calls != 4 {
		t.Errorf("one was called %d times, want two at each of two tries", calls)
	}
}
