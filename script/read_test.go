package script_test

import (
	"math/rand"
	"strings"
	"testing"

	"tracery/api"
	"tracery/script"
)

func wantRead(t *testing.T, line string) api.Errno {
	t.Helper()
	want, wantE := readOf(line)
	s, e := script.Read(line)
	if e != wantE || !sameOf(s, want) {
		t.Fatalf("Read(%.300q): %.300v, %v, not %.300v, %v", line, s, e, want, wantE)
	}
	if e != api.OK && !nothing(s) {
		t.Fatalf("Read(%.300q): %v beside %v", line, s, e)
	}
	return e
}

func TestReadGood(t *testing.T) { // P30.1, P30.6
	for _, s := range goodStmts() {
		line := lineOf(s)
		if e := wantRead(t, line); e != api.OK {
			t.Fatalf("Read(%.300q): %v", line, e)
		}
	}
}

// wrongTexts are arguments' texts that are none.
func wrongTexts() []string {
	long := strings.Repeat("9", 2467) // 1025 bytes
	return []string{
		"", "A", "cC", "0", "1", "-", "-a", "a_b", "a\t", "\ta", "\n", "a\n", "a\r", "a\x00", "\x00", "\xff", "c\xc3\xa4", strings.Repeat("a", 33), "=", "a=", "a=b", "==a",
		"(", ")", "()", "(,)", "(1)", "(1,)", "(,1)", "(1,2", "1,2)", "((1,2)", "(1,2))", "((1,2))", "(1,2)(1,2)", "(1,2)a", "a(1,2)", "(1,2,3)", "(1,2,)", "(,1,2)", "(1,,2)", "(1;2)", "(1.2)", "[1,2)", "(1,2]", "(1/2)", "{1,2}",
		"(inf", "inf)", "()inf", "(Inf)", "(INF)", "(inf,0)", "(0,inf)", "(inf,inf)", "((inf))", "(inf))", "(+inf)", "(-inf)", "(infinity)", "(inf)(inf)", "(in)", "(i)", "[inf]", "#inf",
		"(01,0)", "(0,01)", "(00,0)", "(-0,0)", "(0,-0)", "(+1,0)", "(0,+1)", "(--1,0)", "(-,0)", "(1-,0)", "(1,0i)", "(1+1i)", "(0x1,0)", "(1e1,0)", "(1_0,0)", "(1.0,0)", "(a,0)", "(1,b)", "(1\t,0)", "(\xd9\xa1,0)", "(1:,0)", "(0:,0)", "(:,0)", "(/,0)",
		"(2/4,0)", "(0,2/4)", "(0/2,0)", "(0/1,0)", "(0,0/1)", "(1/1,0)", "(0,1/1)", "(3/1,0)", "(1/0,0)", "(0,1/0)", "(0/0,0)", "(1/,0)", "(/2,0)", "(1/-2,0)", "(-1/-2,0)", "(1/+2,0)", "(1//2,0)", "(1/2/3,0)", "(1/02,0)", "(01/2,0)", "(-0/2,0)", "(1/2/,0)", "(0,1/2/3)", "(6/3,0)", "(-2/2,0)",
		"(" + long + ",0)", "(0," + long + ")", "(1/" + long + ",0)", "(0,1/" + long + ")", "(-" + long + ",0)", "(" + strings.Repeat("1", 39999) + ",0)", "(" + strings.Repeat("1", 40001) + ",0)", "(0,1/" + strings.Repeat("7", 50000) + ")",
		"[", "]", "[1", "1]", "[[1]", "[1]]", "[[1]]", "[[]]", "[][]", "[1][2]", "[1]a", "a[1]", "[]a", "[0]", "[-0]", "[1.0]", "[0.1]", "[01]", "[1.02]", "[-01]", "[+1]", "[--1]", "[-]", "[1.]", "[.1]", "[.]", "[1..2]", "[1,2]", "[1.2", "[1.-]", "[1-2]", "[4097]", "[-4097]", "[1.4097]", "[99999999999999999999]", "[-99999999999999999999]", "[9223372036854775808]", "[1/2]", "[2/1]", "[a]", "[1.a]", "[1\t2]", "[1\x00]", "[0x1]", "[1_0]",
		"#", "#-1", "#-0", "#+1", "#00", "#01", "#07", "##1", "#1#", "#1a", "#a", "#1.", "#1/2", "#4/2", "#1/1", "#2147483648", "#9223372036854775807", "#9223372036854775808", "#99999999999999999999", "#18446744073709551616", "#4294967296", "#0x1", "#1_0", "#1e1", "#\xd9\xa1", "#(1)", "(#1,0)",
		"[" + strings.Repeat("1.", api.MaxList) + "1]", "[" + strings.Repeat("1.", 100000) + "1]", "[" + strings.Repeat("1.", api.MaxList-1) + "0]", "[" + strings.Repeat("9", 100000) + "]", "#" + strings.Repeat("9", 100000), "(" + strings.Repeat("9", 1<<20) + ",0)", strings.Repeat("(", 1<<20), strings.Repeat("[", 1<<20), strings.Repeat("a", 1<<20),
	}
}

func TestReadWrongTexts(t *testing.T) { // P30.1
	for _, s := range wrongTexts() {
		for _, line := range []string{"draw " + s, "draw c " + s, "draw " + s + " c", "draw #1 (0,0) " + s + " [] (inf)", "draw =c " + s, "draw =" + s} {
			if e := wantRead(t, line); e != api.ErrLine {
				t.Fatalf("Read(%.300q): %v", line, e)
			}
		}
	}
}

func TestReadRefuses(t *testing.T) { // P30.1
	for _, line := range []string{
		"", " ", "  ", "\n", "\t", "=", "=c", " draw", "draw ", "draw  ", " draw c", "draw  c", "draw c ", "draw c  d", "draw\tc", "draw\tc d", "draw\nc", "draw c\n", "\ndraw c", "draw\rc", "draw c\r", "draw\x00", "draw c\x00", "draw \xa0c", "draw\xc2\xa0c",
		"Draw", "draw0", "draw-a", "dr=w", "draw=c", "draw= c", "draw = c", "draw =", "draw = ", "draw ==c", "draw =C", "draw =0", "draw =-", "draw =c=d", "draw =c =d", "draw =c =c", "draw c =d", "draw (1,2) =d", "draw =c d =e", "=c draw", "draw =(1,2)", "draw =[1]", "draw =#1", "draw =(inf)", "draw =c ", "draw =c  d", "draw  =c",
		"(1,2)", "(inf)", "[1]", "#1", "draw(1,2)", "draw[1]", "draw#1", "draw (1, 2)", "draw ( 1,2)", "draw (1,2 )", "draw [1. 2]", "draw # 1", "draw [ ]", "draw ( inf)", "draw (inf )",
		strings.Repeat("a", 17), strings.Repeat("a", 17) + " c", "draw =" + strings.Repeat("a", 33), "draw" + strings.Repeat(" c", 65), "draw =c" + strings.Repeat(" (inf)", 65), "draw" + strings.Repeat(" #1", 100000), strings.Repeat(" ", 100000),
	} {
		if e := wantRead(t, line); e != api.ErrLine {
			t.Fatalf("Read(%.300q): %v", line, e)
		}
	}
}

// Numbers as long as may be, and a little more, in each of four places.
func TestReadLongNumbers(t *testing.T) { // P30.1
	most := bigOf(wide(api.MaxWhole)).String()
	more := bigOf(api.Whole{Mag: "\x01" + strings.Repeat("\x00", api.MaxWhole)}).String()
	even := bigOf(high(api.MaxWhole)).String()
	counts := tally{}
	for _, n := range []string{most, more, even} {
		for _, s := range []string{"(" + n + ",0)", "(-" + n + ",0)", "(7/" + n + ",0)", "(0," + n + ")", "(0,-" + n + ")", "(0,7/" + n + ")", "(" + n + "/" + even + ",0)", "(0," + n + "/" + most + ")"} {
			counts[wantRead(t, "point =p "+s)]++
		}
	}
	counts.want(t, 6, api.OK, api.ErrLine)
}

// A line has no bound of its own: just its arguments have.
func TestReadLongLines(t *testing.T) { // P30.1
	s := stmt("word", "w")
	for range 64 {
		s.Args = append(s.Args, word(letters(api.MaxList, -4096)...))
	}
	line := lineOf(s)
	if len(line) <= api.MaxConsole {
		t.Fatal(len(line))
	}
	if e := wantRead(t, line); e != api.OK {
		t.Fatal(e)
	}
	if l, e := script.Line(s); l != line || e != api.OK {
		t.Fatal(e)
	}
	if e := wantRead(t, line+" c"); e != api.ErrLine {
		t.Fatal(e)
	}
}

// Each byte of a line is left out, doubled, and changed for any other.
func TestReadSpoilt(t *testing.T) { // P30.1
	counts := tally{}
	line := "circle =c-1 a (1/2,-10/3) (inf) (0,7) [1.-20] [] #70 #0"
	for k := range len(line) {
		counts[wantRead(t, line[:k])]++
		counts[wantRead(t, line[k:])]++
		counts[wantRead(t, line[:k]+line[k+1:])]++
		counts[wantRead(t, line[:k+1]+line[k:])]++
		for c := range 256 {
			b := string([]byte{byte(c)})
			counts[wantRead(t, line[:k]+b+line[k+1:])]++
			counts[wantRead(t, line[:k]+b+line[k:])]++
		}
	}
	counts.want(t, 1000, api.OK, api.ErrLine)
}

// Texts of few bytes, all of them.
func TestReadShort(t *testing.T) { // P30.1
	counts := tally{}
	for _, all := range []string{"a (1,0/)=", "a [1.0-]#", "a-0#(,)2/"} {
		var grow func(s string, more int)
		grow = func(s string, more int) {
			counts[wantRead(t, "a "+s)]++
			if more > 0 {
				for k := range len(all) {
					grow(s+all[k:k+1], more-1)
				}
			}
		}
		grow("", 5)
	}
	counts.want(t, 1000, api.OK, api.ErrLine)
}

func TestReadMany(t *testing.T) { // P30.1
	counts := tally{}
	r := rand.New(rand.NewSource(302))
	for range 3000 {
		line := lineOf(anyStmt(r))
		counts[wantRead(t, line)]++
		b := []byte(line)
		b[r.Intn(len(b))] = " =#()[],./-0159abzZ"[r.Intn(19)]
		counts[wantRead(t, string(b))]++
	}
	counts.want(t, 500, api.OK, api.ErrLine)
}
