package script_test

import (
	"math/rand"
	"slices"
	"strings"
	"testing"

	"tracery/api"
	"tracery/script"
)

// filled is a line of just so many bytes, its end among them; from 4 to 2000.
func filled(size int) string {
	out := "a"
	for rest := size - 2; rest > 0; {
		n := rest
		if rest > 33 {
			n = 30
		}
		out += " " + strings.Repeat("b", n-1)
		rest -= n
	}
	return out + "\n"
}

// filledText is one of that many lines of 256 bytes each.
func filledText(lines int) string { return strings.Repeat(filled(256), lines) }

func wantText(t *testing.T, scene []api.Stmt) api.Errno {
	t.Helper()
	want := ""
	wantN, wantE := checkedOf(scene)
	if wantE == api.OK {
		want = textOf(scene...)
	}
	s, n, e := script.Text(scene...)
	if s != want || n != wantN || e != wantE {
		t.Fatalf("Text of %d statements: %d bytes, %d, %v, not %d, %d, %v", len(scene), len(s), n, e, len(want), wantN, wantE)
	}
	return e
}

// wantParse asks Parse and All of a text.
func wantParse(t *testing.T, text string) api.Errno {
	t.Helper()
	want, wantN, wantE := parseOf(text)
	l, n, e := script.Parse(text)
	if n != wantN || e != wantE || e != api.OK && l != nil {
		t.Fatalf("Parse(%.200q), %d bytes: %d, %v, not %d, %v", text, len(text), n, e, wantN, wantE)
	}
	wantStmts(t, text, l, want)
	head, _ := headOf(text)
	wantStmts(t, text, gather(t, script.All(text), -1), head)
	return e
}

func TestTextExamples(t *testing.T) { // P30.2
	for _, x := range []struct {
		scene []api.Stmt
		want  string
		n     int
		e     api.Errno
	}{
		{nil, "", 0, api.OK},
		{[]api.Stmt{}, "", 0, api.OK},
		{[]api.Stmt{stmt("draw", "")}, "draw\n", 1, api.OK},
		{[]api.Stmt{stmt("draw", "", named("c")), stmt("point", "p", number(plain(1), plain(0)))}, "draw c\npoint =p (1,0)\n", 2, api.OK},
		// Whether it is in order is not asked.
		{[]api.Stmt{stmt("draw", "c", named("c")), stmt("draw", "c", named("c"))}, "draw =c c\ndraw =c c\n", 2, api.OK},
		{[]api.Stmt{{}}, "", 0, api.ErrArg},
		{[]api.Stmt{stmt("draw", ""), {}}, "", 1, api.ErrArg},
		{[]api.Stmt{stmt("draw", ""), stmt("Draw", ""), {}}, "", 1, api.ErrArg},
		{[]api.Stmt{stmt("draw", ""), stmt("draw", ""), stmt("draw", "", api.Arg{}), stmt("draw", "")}, "", 2, api.ErrArg},
	} {
		if s, n, e := script.Text(x.scene...); s != x.want || n != x.n || e != x.e {
			t.Errorf("%v: %q, %d, %v", x.scene, s, n, e)
		}
	}
}

// bounds are scenes about MaxList statements long, with one that may not be at the
// head, at the end, behind MaxList others, or nowhere.
func bounds() [][]api.Stmt {
	var l [][]api.Stmt
	for _, n := range []int{0, 1, api.MaxList - 1, api.MaxList, api.MaxList + 1, api.MaxList + 2} {
		good := slices.Repeat([]api.Stmt{stmt("draw", "", inf())}, n)
		l = append(l, good)
		for _, at := range []int{0, 1, n / 2, api.MaxList - 1, api.MaxList, n - 1} {
			if at >= 0 && at < n {
				wrong := slices.Clone(good)
				wrong[at] = stmt("Draw", "")
				l = append(l, wrong)
			}
		}
	}
	return l
}

func TestTextOrderOfErrors(t *testing.T) { // P30.2
	counts := tally{}
	for _, scene := range bounds() {
		counts[wantText(t, scene)]++
	}
	counts.want(t, 3, api.OK, api.ErrArg, api.ErrLong)
}

// A text that Parse refuses for its length is told all the same.
func TestTextLong(t *testing.T) { // P30.2, P30.3
	s := stmt("word", "", slices.Repeat([]api.Arg{word(letters(api.MaxList, -4096)...)}, 50)...)
	for _, scene := range [][]api.Stmt{{s}, {s, s}, {stmt("a", ""), s, stmt("b", "")}} {
		wantText(t, scene)
		text, n, e := script.Text(scene...)
		if n != len(scene) || e != api.OK || len(text) <= api.MaxConsole {
			t.Fatal(n, e, len(text))
		}
		if e := wantParse(t, text); e != api.ErrLong {
			t.Fatal(e)
		}
	}
}

func TestParseExamples(t *testing.T) { // P30.2
	for _, x := range []struct {
		text string
		n    int
		e    api.Errno
	}{
		{"", 0, api.OK},
		{"draw c\n", 1, api.OK},
		{"draw c\npoint =p (1,0)\n", 2, api.OK},
		{"draw =c c\ndraw =c c\n", 2, api.OK},
		{"draw c", 0, api.ErrLine},
		{"draw c\ndraw c", 1, api.ErrLine},
		{"draw c\ndraw", 1, api.ErrLine},
		{"draw c\n ", 1, api.ErrLine},
		{"draw c\nX", 1, api.ErrLine},
		{"\n", 0, api.ErrLine},
		{"\n\n", 0, api.ErrLine},
		{"draw c\n\n", 1, api.ErrLine},
		{"\ndraw c\n", 0, api.ErrLine},
		{"draw c\n\ndraw c\n", 1, api.ErrLine},
		{"draw c\nX\n", 1, api.ErrLine},
		{"X\ndraw c\n", 0, api.ErrLine},
		{"X\nX\n", 0, api.ErrLine},
		{"draw c\r\n", 0, api.ErrLine},
		{"draw c\rdraw c\n", 0, api.ErrLine},
		{"draw c\x00\n", 0, api.ErrLine},
		{"draw c\ndraw c \n", 1, api.ErrLine},
		{"draw c\n draw c\n", 1, api.ErrLine},
		{"draw\nc\n(1,0)\n", 2, api.ErrLine},
	} {
		l, n, e := script.Parse(x.text)
		if n != x.n || e != x.e || e != api.OK && l != nil || e == api.OK && len(l) != n {
			t.Errorf("%q: %v, %d, %v", x.text, l, n, e)
		}
		wantParse(t, x.text)
	}
}

func TestParseBounds(t *testing.T) { // P30.2, P30.3
	line := filled(256)
	full := filledText(4096)
	if len(line) != 256 || len(full) != api.MaxConsole {
		t.Fatal(len(line), len(full))
	}
	lines := func(n int) string { return strings.Repeat("a\n", n) }
	for _, x := range []struct {
		what, text string
		n          int
		e          api.Errno
	}{
		{"MaxConsole bytes, MaxList lines", full, 4096, api.OK},
		{"MaxConsole bytes, less lines", full[512:] + filled(512), 4095, api.OK},
		{"one byte more", full[256:] + filled(257), 0, api.ErrLong},
		{"one byte more, an empty line", full + "\n", 0, api.ErrLong},
		{"one byte more ahead, an empty line", "\n" + full, 0, api.ErrLong},
		{"MaxConsole bytes without the last end", full[:len(full)-1], 4095, api.ErrLine},
		{"MaxConsole bytes, the last one no end", full[:len(full)-1] + "b", 4095, api.ErrLine},
		{"MaxConsole bytes without an end", strings.Repeat("a", api.MaxConsole), 0, api.ErrLine},
		{"one byte more without an end", strings.Repeat("a", api.MaxConsole+1), 0, api.ErrLong},
		{"MaxConsole ends", strings.Repeat("\n", api.MaxConsole), 0, api.ErrLine},
		{"one end more", strings.Repeat("\n", api.MaxConsole+1), 0, api.ErrLong},
		{"MaxList lines", lines(4096), 4096, api.OK},
		{"one line more", lines(4097), 0, api.ErrLong},
		{"one line more, without its end", lines(4096) + "a", 4096, api.ErrLine},
		{"MaxList lines, a blank behind", lines(4096) + " ", 4096, api.ErrLine},
		{"MaxList lines, an empty one behind", lines(4096) + "\n", 4096, api.ErrLine},
		{"MaxList lines, one that is none behind", lines(4096) + "A\n", 4096, api.ErrLine},
		{"one more, one that is none behind", lines(4097) + "A\n", 4097, api.ErrLine},
		{"far more, one that is none behind", lines(9999) + "A\n" + lines(9999), 9999, api.ErrLine},
		{"far more, without the last end", lines(9999) + "a", 9999, api.ErrLine},
		{"one that is none ahead of too many", "A\n" + lines(5000), 0, api.ErrLine},
		{"one that is none midway of too many", lines(70) + "A\n" + lines(5000), 70, api.ErrLine},
		{"as many lines as may be bytes", lines(1 << 19), 0, api.ErrLong},
		{"as many lines as may be bytes, the last one none", lines(1<<19-1) + "A\n", 1<<19 - 1, api.ErrLine},
		{"too many bytes and lines, the first one none", "A\n" + lines(1<<19), 0, api.ErrLong},
	} {
		l, n, e := script.Parse(x.text)
		if n != x.n || e != x.e || e != api.OK && l != nil || e == api.OK && len(l) != n {
			t.Errorf("%s: %d statements, %d, %v, not %d, %v", x.what, len(l), n, e, x.n, x.e)
		}
		wantParse(t, x.text)
	}
}

// Each byte of a text is left out, and changed for others; an end is put ahead.
func TestParseSpoilt(t *testing.T) { // P30.2, P30.3
	counts := tally{}
	text := "point =p (1,0)\ndraw c\nword [1.-2]\nfar #1 (inf) p\n"
	for k := range len(text) {
		counts[wantParse(t, text[:k])]++
		counts[wantParse(t, text[k:])]++
		counts[wantParse(t, text[:k]+text[k+1:])]++
		for _, c := range []byte(" \n\r\t\x00=#a0A-(),[].\xff") {
			counts[wantParse(t, text[:k]+string([]byte{c})+text[k+1:])]++
			counts[wantParse(t, text[:k]+string([]byte{c})+text[k:])]++
		}
	}
	counts.want(t, 100, api.OK, api.ErrLine)
}

func TestSceneMany(t *testing.T) { // P30.2, P30.3, P30.6
	r := rand.New(rand.NewSource(303))
	for range 400 {
		scene := make([]api.Stmt, r.Intn(8))
		for i := range scene {
			scene[i] = anyStmt(r)
		}
		wantText(t, scene)
		text, n, e := script.Text(scene...)
		if e := wantParse(t, text); e != api.OK {
			t.Fatal(e)
		}
		l, m, f := script.Parse(text)
		if n != len(scene) || m != n || e != api.OK || f != api.OK {
			t.Fatal(n, m, e, f)
		}
		wantStmts(t, text, l, scene)
		again, k, e := script.Text(l...)
		if again != text || k != n || e != api.OK {
			t.Fatalf("%.300q, %d, %v, not %.300q", again, k, e, text)
		}
	}
}

func TestAllHead(t *testing.T) { // P30.3
	for text, n := range map[string]int{
		"": 0, "\n": 0, "draw c": 0, "draw c\n": 1, "draw c\ndraw c": 1, "draw c\n\ndraw c\n": 1, "\ndraw c\n": 0, "draw c\ndraw c\nX\ndraw c\n": 2, "draw c\n draw c\n": 1, "draw c\r\n": 0,
		// It has no bounds: neither of lines, nor of bytes.
		strings.Repeat("a\n", 4096): 4096, strings.Repeat("a\n", 4097): 4097, strings.Repeat("a\n", 5000) + "A\n" + strings.Repeat("a\n", 5000): 5000, filledText(4096): 4096, filledText(4097): 4097, filledText(4200) + "b": 4200, "A\n" + filledText(4200): 0,
	} {
		if l := gather(t, script.All(text), -1); len(l) != n {
			t.Errorf("%.50q, %d bytes: %d, not %d", text, len(text), len(l), n)
		}
	}
}

func TestAllLeft(t *testing.T) { // P30.3
	text := "point =p (1,0)\ndraw c\nword [1.-2] [3]\nfar #1 (inf) p\nX\ndraw c\n"
	want, _ := headOf(text)
	if len(want) != 4 {
		t.Fatal(len(want))
	}
	all := script.All(text)
	for range 3 {
		for most := range 7 {
			wantStmts(t, "left", gather(t, all, most), want[:min(most, 4)])
		}
		wantStmts(t, "all", gather(t, all, -1), want)
	}
	// Within itself.
	n := 0
	for i, s := range all {
		for j, x := range all {
			if !sameOf(s, want[i]) || !sameOf(x, want[j]) {
				t.Fatal(i, j, s, x)
			}
			wantStmts(t, "within", gather(t, all, i), want[:i])
			n++
			if j > i {
				break
			}
		}
	}
	if n != 2+3+4+4 {
		t.Error(n)
	}
}
