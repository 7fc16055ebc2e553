package mob_test

import (
	"math/rand"
	"strings"
	"testing"

	"tracery/api"
	"tracery/mob"
)

// numText goes by the words of chapters 3 and 4.
func numText(z num) string {
	switch {
	case z.im.Sign() == 0:
		return z.re.RatString()
	case z.re.Sign() == 0:
		return z.im.RatString() + "i"
	case z.im.Sign() > 0:
		return z.re.RatString() + "+" + z.im.RatString() + "i"
	}
	return z.re.RatString() + z.im.RatString() + "i"
}

func text(m chart) string {
	s := "map "
	if m.turns {
		s = "turn "
	}
	return s + numText(m.a) + " " + numText(m.b) + " " + numText(m.c) + " " + numText(m.d)
}

func cut(s string) string { return s[:min(len(s), 60)] }

// wantText wants the text, and that it is read again, unless it is too long.
func wantText(t *testing.T, m chart, wanted string) {
	t.Helper()
	if s, e := mob.Text(m.mob()); s != wanted || e != api.OK {
		t.Fatalf("the text of %s is %s, %v", brief(m.mob()), cut(s), e)
	}
	got, e := mob.Read(wanted)
	if len(wanted) > api.MaxList {
		wantRefused(t, cut(wanted)+" read", got, e, api.ErrLong)
		return
	}
	want(t, cut(wanted)+" read", got, e, m)
}

func TestText(t *testing.T) { // P8.7
	wantText(t, still(), "map 1 0 0 1")
	wantText(t, still().turned(), "turn 1 0 0 1")
	wantText(t, stretch(in(0, 1)).turned(), "turn 1i 0 0 1")
	wantText(t, chart{num{half(), in(-3, 0).re}, in(0, -1), in(1, 0), in(-2, 1), false}, "map 1/2-3i -1i 1 -2+1i")
	for _, m := range maps() {
		wantText(t, m, text(m))
	}
	quads(func(m chart) {
		if !m.det().zero() {
			wantText(t, m.formed(), text(m.formed()))
		}
	})
	r := rand.New(rand.NewSource(870))
	longest := chart{fullNum(r, 1024), fullNum(r, 1024), in(1, 0), fullNum(r, 1024), true}
	wantText(t, longest, text(longest))
	for _, m := range wrongMaps() {
		if s, e := mob.Text(m); s != "" || e != api.ErrArg {
			t.Fatalf("the text of a wrong map is %s, %v", cut(s), e)
		}
	}
}

func TestReadAtItsBound(t *testing.T) { // P8.7
	nines := func(count int) string { return strings.Repeat("9", count) }
	for length, wanted := range map[int]api.Errno{api.MaxList - 1: api.OK, api.MaxList: api.OK, api.MaxList + 1: api.ErrLong} {
		ahead, behind := "map "+nines(2000)+"+", "i 0 0 1"
		s := ahead + nines(length-len(ahead)-len(behind)) + behind
		got, e := mob.Read(s)
		if e != wanted || (e == api.OK) != (mob.Check(got) == api.OK) {
			t.Errorf("a map's text of %d bytes: %v, want %v", len(s), e, wanted)
		}
		if again, f := mob.Text(got); e == api.OK && (again != s || f != api.OK) {
			t.Errorf("what was read of %d bytes has another text: %v", len(s), f)
		}
	}
	for _, s := range []string{strings.Repeat(" ", api.MaxList+1), strings.Repeat("map ", 2000), "map 1 0 0 1" + strings.Repeat(" ", api.MaxList), strings.Repeat("x", 1<<20)} {
		got, e := mob.Read(s)
		wantRefused(t, cut(s)+" read", got, e, api.ErrLong)
	}
	for _, s := range []string{strings.Repeat(" ", api.MaxList), strings.Repeat("map ", 1024), "map 1 0 0 1" + strings.Repeat(" ", 4085), strings.Repeat("x", 4096)} {
		got, e := mob.Read(s)
		wantRefused(t, cut(s)+" read", got, e, api.ErrMob)
	}
}

func TestReadRefuses(t *testing.T) { // P8.7
	tooLong := past().String()
	for _, s := range []string{
		"", " ", "map", "turn", "map ", "map 1", "map 1 0", "map 1 0 0", "map 1 0 0 ", "map 1 0 0 1 ", " map 1 0 0 1", "map  1 0 0 1", "map 1  0 0 1", "map 1 0 0 1 1", "map 1 0 0 1\n", "map\t1 0 0 1", "map 1\t0 0 1", "map 1 0 0\u00a01",
		"Map 1 0 0 1", "MAP 1 0 0 1", "turns 1 0 0 1", "maps 1 0 0 1", "ma 1 0 0 1", "1 0 0 1", " 1 0 0 1", "map turn 1 0 0 1", "turn map 1 0 0 1", "mapturn 1 0 0 1", "map1 0 0 1", "map,1,0,0,1",
		"map 1 0 0 i", "map i 0 0 1", "map 1+0i 0 0 1", "map 01 0 0 1", "map -0 1 1 0", "map 2/4 0 0 1", "map 1/1 0 0 1", "map 1.5 0 0 1", "map 1/0 0 0 1", "map inf 0 0 1", "map 1 inf 0 1", "map x 0 0 1", "map +1 0 0 1", "map 1 0 0i 1",
		"map 1 0 0 2", "map 2 0 2 0", "map 2 0 0 2", "map 1 0 0 -1", "map 0 1 2 0", "map 0 1 1i 0", "map 0 1 -1 0", "map 1 0 0 1i", // another form's
		"map 0 0 0 1", "map 0 0 0 0", "map 0 5 0 1", "map 1 0 0 0", "map 2 6 1 3", "turn 0 0 1 1", "turn 0 0 0 1", "turn 1+1i 2 1 1-1i", // flat
		"map " + tooLong + " 0 0 1", "map 1 -" + tooLong + "i 0 1", "turn 1/" + tooLong + " 0 0 1",
	} {
		got, e := mob.Read(s)
		wantRefused(t, cut(s)+" read", got, e, api.ErrMob)
	}
}
