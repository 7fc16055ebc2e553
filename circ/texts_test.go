package circ_test

import (
	"math/rand"
	"strings"
	"testing"

	"tracery/api"
	"tracery/circ"
)

// numText goes by the words of chapters 3 and 4.
func numText(z num) string {
	switch {
	case z.im.Sign() == 0:
		return z.re.RatString()
	case z.re.Sign() == 0:
		return z.im.RatString() + "i"
	case z.im.Sign() > 0:
		return z.re.RatString() + "+" + z.im.RatString() + "i"
	}
	return z.re.RatString() + z.im.RatString() + "i"
}

func text(k ring) string { return k.a.RatString() + " " + numText(k.b) + " " + k.c.RatString() }

func cut(s string) string { return s[:min(len(s), 60)] }

// wantText wants the text, and that it is read again, unless it is too long.
func wantText(t *testing.T, k ring, wanted string) {
	t.Helper()
	if s, e := circ.Text(k.circle()); s != wanted || e != api.OK {
		t.Fatalf("the text of %s is %s, %v", brief(k.circle()), cut(s), e)
	}
	got, e := circ.Read(wanted)
	if len(wanted) > api.MaxList {
		wantNone(t, cut(wanted)+" read", got, e, api.ErrLong)
		return
	}
	want(t, cut(wanted)+" read", got, e, k)
}

func TestText(t *testing.T) { // P11.7
	wantText(t, unit(), "1 0 -1")
	wantText(t, reals(), "0 1i 0")
	wantText(t, ringed(0, 1, 0, -2), "0 1 -2")
	wantText(t, ring{rat(1, 1), num{rat(1, 2), rat(-3, 4)}, rat(-5, 6)}, "1 1/2-3/4i -5/6")
	wantText(t, ring{none(), num{rat(1, 1), rat(2, 3)}, rat(7, 2)}, "0 1+2/3i 7/2")
	for _, k := range rings() {
		wantText(t, k, text(k))
	}
	r := rand.New(rand.NewSource(1170))
	for range 200 {
		k := oddRing(r, 20)
		wantText(t, k, text(k))
	}
	for _, c := range wrongCircles() {
		if s, e := circ.Text(c); s != "" || e != api.ErrArg {
			t.Fatalf("the text of the wrong %s is %s, %v", brief(c), cut(s), e)
		}
	}
}

func TestReadAtItsBound(t *testing.T) { // P11.7
	nines := func(count int) string { return strings.Repeat("9", count) }
	for length, wanted := range map[int]api.Errno{api.MaxList - 1: api.OK, api.MaxList: api.OK, api.MaxList + 1: api.ErrLong} {
		ahead := "1 " + nines(2000) + "i -"
		s := ahead + nines(length-len(ahead))
		got, e := circ.Read(s)
		if e != wanted || (e == api.OK) != (circ.Check(got) == api.OK) {
			t.Errorf("a circle's text of %d bytes: %v, want %v", len(s), e, wanted)
		}
		if again, f := circ.Text(got); e == api.OK && (again != s || f != api.OK) {
			t.Errorf("what was read of %d bytes has another text: %v", len(s), f)
		}
	}
	for _, s := range []string{strings.Repeat(" ", api.MaxList+1), strings.Repeat("1 ", 2049), "1 0 -1" + strings.Repeat(" ", api.MaxList), strings.Repeat("x", 1<<20)} {
		got, e := circ.Read(s)
		wantNone(t, cut(s)+" read", got, e, api.ErrLong)
	}
	for _, s := range []string{strings.Repeat(" ", api.MaxList), strings.Repeat("1 ", 2048), "1 0 -1" + strings.Repeat(" ", 4090), strings.Repeat("x", 4096)} {
		got, e := circ.Read(s)
		wantNone(t, cut(s)+" read", got, e, api.ErrCircle)
	}
}

func TestReadRefuses(t *testing.T) { // P11.7
	tooLong := past().String()
	for _, s := range []string{
		"", " ", "  ", "1", "1 0", "1 0 ", "1 0 -1 ", " 1 0 -1", "1  0 -1", "1 0  -1", "1 0 -1 0", "1 0 -1\n", "1\t0 -1", "1 0\t-1", "1 0\u00a0-1", "1,0,-1", "1 0-1", "10 -1", "circle 1 0 -1", "1 0 -1 1 0 -1",
		"1 i -1", "0 i 0", "0 +1i 0", "0 1+0i 0", "0 0+1i 0", "0 1i+1 0", "0 1i1 0", "01 0 -1", "1 00 -1", "1 0 -01", "1 -0 -1", "1 0 -0", "-0 1 0", "1/1 0 -1", "1 0/1 -1", "1 0 -1/1", "1 0 -2/4", "1 2/4 -1", "1 0 -1/0", "1 0 1/-2", "+1 0 -1", "1 +0 -1", "1 0 +0", "1.0 0 -1", "1 0 -0.5", "inf 0 -1", "1 inf -1", "1 0 inf", "x 0 -1", "1 0i -1", "1i 0 -1", "1 0 -1i", "0 1 1i",
		"2 0 -2", "-1 0 1", "1/2 0 -1", "0 2 0", "0 -1 0", "0 2i 0", "0 -1i 0", "0 2+1i 0", "0 -1+1i 0", "0 1/2 0", "0 1/2i 0", // another form's
		"1 0 1", "1 0 0", "1 1 1", "1 3+4i 25", "1 3+4i 26", "0 0 0", "0 0 5", "0 0 -5", "-1 0 -1", "1 1/2 1/4", // of no circle
		"1 0 -" + tooLong, "1 " + tooLong + " -1", "1 -" + tooLong + "i -1", "1 0 -1/" + tooLong, "0 1 " + tooLong, tooLong + " 0 -1",
	} {
		got, e := circ.Read(s)
		wantNone(t, cut(s)+" read", got, e, api.ErrCircle)
	}
}

// Whatever is read is the text of what it is read as.
func TestReadTakesJustTexts(t *testing.T) { // P11.7
	bytes := "0011-/ i+2"
	r := rand.New(rand.NewSource(1171))
	taken := 0
	for range 200000 {
		s := []byte("1 0 -1")
		if r.Intn(2) == 0 {
			s = []byte("0 1+2i 1/2")
		}
		for range 1 + r.Intn(3) {
			s[r.Intn(len(s))] = bytes[r.Intn(len(bytes))]
		}
		got, e := circ.Read(string(s))
		switch e {
		case api.OK:
			taken++
			if again, e := circ.Text(got); again != string(s) || e != api.OK {
				t.Fatalf("%q is read as %s, whose text is %q", s, brief(got), again)
			}
		default:
			wantNone(t, string(s)+" read", got, e, api.ErrCircle)
		}
	}
	if taken < 1000 {
		t.Errorf("just %d were texts", taken)
	}
}
