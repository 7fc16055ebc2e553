package script_test

import (
	"math/rand"
	"strings"
	"testing"

	"tracery/api"
	"tracery/script"
)

// wantLine asks Check and Line of a statement.
func wantLine(t *testing.T, s api.Stmt) api.Errno {
	t.Helper()
	want, wantE := "", api.ErrArg
	if mayOf(s) {
		want, wantE = lineOf(s), api.OK
	}
	if e := script.Check(s); e != wantE {
		t.Fatalf("Check(%.300v): %v, not %v", s, e, wantE)
	}
	if l, e := script.Line(s); l != want || e != wantE {
		t.Fatalf("Line(%.300v): %.300q, %v, not %.300q, %v", s, l, e, want, wantE)
	}
	return wantE
}

func TestCheckGood(t *testing.T) { // P30.1
	for _, s := range goodStmts() {
		if e := wantLine(t, s); e != api.OK {
			t.Fatalf("%.300v: %v", s, e)
		}
	}
}

func TestCheckWrong(t *testing.T) { // P30.1
	for _, s := range wrongStmts() {
		if e := wantLine(t, s); e != api.ErrArg {
			t.Fatalf("%.300v: %v", s, e)
		}
	}
}

// Each byte ahead and behind, in verbs and names.
func TestCheckBytes(t *testing.T) { // P30.1
	counts := tally{}
	for c := range 256 {
		b := string([]byte{byte(c)})
		for _, s := range []string{b, b + "a", "a" + b, "a" + b + "a", b + b, strings.Repeat("a", 15) + b, strings.Repeat("a", 16) + b, strings.Repeat("a", 31) + b, strings.Repeat("a", 32) + b, b + strings.Repeat("a", 31)} {
			counts[wantLine(t, stmt(s, ""))]++
			counts[wantLine(t, stmt("draw", s))]++
			counts[wantLine(t, stmt("draw", "", named(s)))]++
		}
	}
	counts.want(t, 500, api.OK, api.ErrArg)
}

// Of each length, as many letters and arguments as may be and one more.
func TestCheckLengths(t *testing.T) { // P30.1
	for n := range 70 {
		for _, c := range []string{"a", "z"} {
			s := strings.Repeat(c, n)
			wantLine(t, stmt(s, ""))
			wantLine(t, stmt("draw", s))
			wantLine(t, stmt("draw", "", named(s)))
		}
		args := make([]api.Arg, n)
		for k := range args {
			args[k] = count(k)
		}
		wantLine(t, stmt("draw", "", args...))
		wantLine(t, stmt("draw", "c", args...))
	}
	for _, n := range []int{api.MaxList - 1, api.MaxList, api.MaxList + 1} {
		for _, k := range []int{1, -1, 4096, -4096, 0, 4097} {
			wantLine(t, stmt("draw", "", word(letters(n, k)...)))
		}
	}
}

func TestLineTexts(t *testing.T) { // P30.1
	for line, s := range map[string]api.Stmt{
		"draw":                   stmt("draw", ""),
		"draw =c":                stmt("draw", "c"),
		"draw c":                 stmt("draw", "", named("c")),
		"draw =c c":              stmt("draw", "c", named("c")),
		"a =a-0 (0,0)":           stmt("a", "a-0", number(plain(0), plain(0))),
		"a (-1,1/2) (-3/2,-256)": stmt("a", "", number(plain(-1), over(1, 2)), number(over(-3, 2), plain(-256))),
		"a (inf) inf":            stmt("a", "", inf(), named("inf")),
		"a [] [-1] [10.-4096]":   stmt("a", "", word(), word(-1), word(10, -4096)),
		"a #0 #10 #2147483647":   stmt("a", "", count(0), count(10), count(2147483647)),
	} {
		if l, e := script.Line(s); l != line || e != api.OK {
			t.Errorf("%q, %v, not %q", l, e, line)
		}
		if x, e := script.Read(line); !sameOf(x, s) || e != api.OK {
			t.Errorf("%q: %v, %v", line, x, e)
		}
	}
}

func TestLineMany(t *testing.T) { // P30.1
	counts := tally{}
	r := rand.New(rand.NewSource(301))
	wrong := wrongArgs()
	for range 5000 {
		s := anyStmt(r)
		counts[wantLine(t, s)]++
		if len(s.Args) > 0 {
			s.Args[r.Intn(len(s.Args))] = wrong[r.Intn(len(wrong))]
			counts[wantLine(t, s)]++
		}
	}
	counts.want(t, 3000, api.OK, api.ErrArg)
}
