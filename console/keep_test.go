package console_test

import (
	"strconv"
	"strings"
	"testing"
)

func itoa(n int) string { return strconv.Itoa(n) }

func TestKeep(t *testing.T) { // P32.1
	for _, r := range [][2]string{
		{"restore", "error 7"},
		{"new; restore", "ok; error 7"},
		{"point =p (1,0); restore; show p", "ok; error 7; 1"},
		{"keep; restore; restore; things", "ok; ok; ok"},
		{"keep; point =p (1,0); restore; show p", "ok; ok; ok; error 401"},
		{"point =p (1,0); keep; point =q (2,0); restore; things; restore; things", "ok; ok; ok; ok; p 1; ok; p 1"},
		// The kept one and the one that took its place go on apart, whichever is changed.
		{"keep; restore; point =p (1,0); things; restore; things; point =q (2,0); things; restore; things", "ok; ok; ok; p 1; ok; ok; q 1; ok"},
		{"point =p (1,0); keep; restore; point =q (2,0); restore; restore; things", "ok; ok; ok; ok; ok; ok; p 1"},
		// Another one takes its place.
		{"point =p (1,0); keep; point =q (2,0); keep; new; restore; things", "ok; ok; ok; ok; ok; ok; p 1; q 1"},
		{"point =p (1,0); keep; new; keep; restore; things; point =p (2,0); show p", "ok; ok; ok; ok; ok; ok; 2"},
		// A new shop leaves the kept one.
		{"point =p (1,0); keep; new; things; show p; new; restore; show p", "ok; ok; ok; error 401; ok; ok; 1"},
		{"new; things; point =p (1,0); new; things; point =p (2,0); show p", "ok; ok; ok; ok; 2"},
		// What is refused neither keeps nor restores.
		{"keep 1; restore; keep; point =p (1,0); restore 1; new 1; show p; restore; show p", "error 2; error 7; ok; ok; error 2; error 2; 1; ok; error 401"},
		{"point =p (1,0); keep; point =q (1,0); keep x; restore; things", "ok; ok; ok; error 2; ok; p 1"},
		// Of what is kept names are free again, and maps, circles are what they were.
		{"keep; map =m (2,0) (0,0) (0,0) (1,0); restore; turn =m (1,0) (0,0) (0,0) (1,0); kind m; restore; kind m", "ok; ok; ok; ok; 6 2; ok; error 401"},
	} {
		wantLines(t, r[0], r[1])
	}
}

// A picture is kept, too.
func TestKeepPicture(t *testing.T) { // P32.1
	const unit, two = "round 8000000000000000,0000000000000000 3ff0000000000000", "round 8000000000000000,0000000000000000 4000000000000000"
	wantRun(t, ended("round =a (0,0) (1,0)", "round =b (0,0) (4,0)", "draw a", "keep", "draw b", "picture", "restore", "picture", "draw b", "draw b", "picture", "restore", "picture", "new", "picture", "box", "restore", "picture"),
		ended("ok", "ok", "1", "ok", "1", unit, two, "ok", unit, "1", "1", unit, two, two, "ok", unit, "ok", "error 7", "ok", unit))
	wantRun(t, ended("keep", "round =a (0,0) (1,0)", "draw a", "restore", "picture", "box", "things"), ended("ok", "ok", "1", "ok", "error 7"))
}

// A full shop refuses one more; what is kept of it is as full, a new one is empty.
func TestFullShop(t *testing.T) { // P32.1
	var text, things strings.Builder
	for k := range 4096 {
		text.WriteString("point =p" + itoa(k) + " (" + itoa(k) + ",0)\n")
		things.WriteString("p" + itoa(k) + " 1\n")
	}
	const more = "point =q (0,0)\npoint =p0 (0,0)\nshow q\nshow p4095\nkind p7\n"
	const full = "error 3\nerror 401\nerror 401\n4095\nerror 411\n"
	wantRun(t, text.String()+"things\n"+more+"keep\nnew\npoint =q (0,0)\nthings\nrestore\n"+more+"things\n",
		strings.Repeat("ok\n", 4096)+things.String()+full+"ok\nok\nok\nq 1\nok\n"+full+things.String())
}
