package console_test

import (
	"fmt"
	"math/rand"
	"slices"
	"strings"
	"testing"
)

// wantModel holds a text against the chapter's words.
func wantModel(t *testing.T, text string) string {
	t.Helper()
	want := modelRun(text)
	wantRun(t, text, want)
	return want
}

// anyName is mostly one of the stock's, or one that is made behind it.
func anyName(r *rand.Rand) string {
	switch r.Intn(12) {
	case 0:
		return "nobody"
	case 1:
		return []string{"A", "1", "-", "zero\t", strings.Repeat("a", 33), "=zero", "#1"}[r.Intn(7)]
	case 2, 3, 4:
		return fmt.Sprint("x", r.Intn(6))
	}
	l := namesOf("PMCDFNG"[r.Intn(7)])
	return l[r.Intn(len(l))]
}

func nameOf(r *rand.Rand, kind byte) string {
	l := namesOf(kind)
	if kind == 'X' || r.Intn(5) == 0 {
		return anyName(r)
	}
	return l[r.Intn(len(l))]
}

func anyFrac(r *rand.Rand) string {
	p, q := r.Intn(60)-10, 1+r.Intn(12)
	for x, y := p, q; ; {
		if y == 0 {
			if x < 0 {
				x = -x
			}
			p, q = p/x, q/x
			break
		}
		x, y = y, x%y
	}
	switch {
	case r.Intn(15) == 0:
		return fmt.Sprint(2*p, "/", 2*q)
	case q == 1:
		return fmt.Sprint(p)
	}
	return fmt.Sprint(p, "/", q)
}

func anyNumber(r *rand.Rand) string {
	switch r.Intn(10) {
	case 0:
		return []string{"01", "-1", "x", "1000000000", "999999999", "100000", "100001", "51", "50", "64", "65", "00"}[r.Intn(12)]
	case 1, 2, 3:
		return fmt.Sprint(r.Intn(100))
	}
	return fmt.Sprint(r.Intn(5))
}

// anyAsk is a line of the table, mostly one that goes.
func anyAsk(r *rand.Rand, from string) string {
	l := strings.Fields(from)
	order := l[r.Intn(len(l))]
	line := order
	for _, letter := range []byte(tableOf()[order]) {
		line += strings.Repeat(" ", 1+r.Intn(8)/7)
		switch letter {
		case 'x':
			line += anyFrac(r)
		case '#':
			line += anyNumber(r)
		default:
			line += nameOf(r, letter)
		}
	}
	switch r.Intn(40) {
	case 0:
		line += " 1"
	case 1:
		line = " " + line + "  "
	case 2:
		line += "\t"
	case 3:
		line = strings.ToUpper(line)
	}
	return line
}

const (
	asking = "things show near kind stay centre chord touch ford best row way count picture box"
	moving = "keep restore new"
)

// anyPoint is a point as an argument.
func anyPoint(r *rand.Rand) string {
	switch r.Intn(6) {
	case 0:
		return nameOf(r, 'P')
	case 1:
		return "(inf)"
	}
	return fmt.Sprint("(", anyFrac(r), ",", anyFrac(r), ")")
}

// anyStatement is a line of one of the shop's verbs, mostly one that goes. It makes
// things of a name that begins with x.
func anyStatement(r *rand.Rand) string {
	n := func(kind byte) string { return nameOf(r, kind) }
	p := func() string { return anyPoint(r) }
	x := fmt.Sprint("=x", r.Intn(6), " ")
	line := [...]func() string{
		func() string { return "point " + x + p() },
		func() string { return "circle " + x + p() + " " + p() + " " + p() },
		func() string { return "map " + x + "(" + anyFrac(r) + ",0) (1,0) (0,0) (1,0)" },
		func() string { return "turn " + x + "(0,0) (" + anyFrac(r) + ",1) (1,0) (0,1)" },
		func() string { return "then " + x + n('M') + " " + n('M') },
		func() string { return "image " + x + n('M') + " " + n("PCDFN"[r.Intn(5)]) },
		func() string { return "disk " + x + "(" + anyFrac(r) + ",0) (1,0)" },
		func() string { return "swap " + x + n('F') + fmt.Sprint(" #", r.Intn(5)) },
		func() string { return "round " + x + "(0," + anyFrac(r) + ") (4,0)" },
		func() string { return "mirrors " + x + n('C') + " #1" },
		func() string { return "tell " + n('X') },
		func() string { return "draw " + n("PCCDFNNG"[r.Intn(8)]) },
		func() string { return "lies " + n('C') + " " + n('C') },
		func() string { return "ratio " + p() + " " + p() + " " + p() + " " + p() },
		func() string { return "on " + n('C') + " " + p() },
		func() string { return "order " + n('M') },
		func() string { return "pack " + n('F') + " #" + fmt.Sprint(r.Intn(2)) },
		func() string { return "word [1.2] [-2]" },
		func() string { return "tell" },
		func() string { return "draw  u" },
	}
	return line[r.Intn(len(line))]()
}

// anyText is lines of all kinds.
func anyText(r *rand.Rand, n int) string {
	var l []string
	for range n {
		switch k := r.Intn(24); {
		case k == 0:
			l = append(l, strings.Repeat(" ", r.Intn(3)))
		case k == 1:
			l = append(l, "scene "+anyNumber(r))
		case k == 2:
			l = append(l, anyAsk(r, moving))
		case k == 3:
			l = append(l, []string{"fly", "fly x", "tells", "\t", "\xff\xfe", "x", "=", "restor"}[r.Intn(8)])
		case k < 12:
			l = append(l, anyStatement(r))
		default:
			l = append(l, anyAsk(r, asking))
		}
	}
	return ended(l...)
}

func TestManyTexts(t *testing.T) { // P32.1
	r := rand.New(rand.NewSource(3201))
	answers := map[string]int{}
	for k := range 400 {
		text := anyText(r, 60)
		if k%2 == 0 {
			text = stock() + text
		}
		if k%3 == 0 {
			text = strings.TrimSuffix(text, "\n")
		}
		for _, line := range strings.Split(wantModel(t, text), "\n") {
			answers[line]++
		}
	}
	for _, line := range []string{"ok", "yes", "no", "inf", "error 2", "error 3", "error 4", "error 6", "error 7", "error 250", "error 400", "error 401", "error 410", "error 411"} {
		if answers[line] < 10 {
			t.Errorf("%s came up only %d times", line, answers[line])
		}
	}
}

// Texts of which some bytes were changed.
func TestChangedTexts(t *testing.T) { // P32.1
	r := rand.New(rand.NewSource(3202))
	for range 1500 {
		b := []byte(anyText(r, 12))
		for range 1 + r.Intn(6) {
			at := r.Intn(len(b))
			switch c := []byte("  \n\n\t#=019az-/\xff\xc3"); r.Intn(3) {
			case 0:
				b[at] = c[r.Intn(len(c))]
			case 1:
				b = slices.Insert(b, at, c[r.Intn(len(c))])
			case 2:
				b = slices.Delete(b, at, at+1)
			}
			if len(b) == 0 {
				b = []byte{' '}
			}
		}
		wantModel(t, string(b))
	}
}

// plainText is lines of which none is scene.
func plainText(r *rand.Rand, n int, from string) []string {
	var l []string
	for range n {
		if r.Intn(2) == 0 {
			l = append(l, anyStatement(r))
		} else {
			l = append(l, anyAsk(r, from))
		}
	}
	return l
}

// The answers of the first orders hang on these alone.
func TestFirstOrders(t *testing.T) { // P32.2
	r := rand.New(rand.NewSource(3203))
	for range 20 {
		l := append(parts(strings.ReplaceAll(stock(), "\n", ";")), plainText(r, 30, asking+" "+moving)...)
		whole, old := run(t, ended(l...)), ""
		for k := range len(l) + 1 {
			s := run(t, ended(l[:k]...))
			if !strings.HasPrefix(whole, s) || !strings.HasPrefix(s, old) {
				t.Fatalf("%q: %.500q, %.500q, %.500q", l[:k], old, s, whole)
			}
			old = s
		}
		if old != whole {
			t.Fatalf("%.500q, %.500q", old, whole)
		}
	}
}

// probe asks for all that is told.
func probe() string {
	l := []string{"things", "picture", "box"}
	for _, kind := range []byte("PMCDFNG") {
		for _, name := range namesOf(kind) {
			l = append(l, "show "+name)
		}
	}
	for k := range 6 {
		l = append(l, fmt.Sprint("show x", k), fmt.Sprint("near x", k), fmt.Sprint("kind x", k), fmt.Sprint("centre x", k))
	}
	return ended(l...)
}

func TestRestore(t *testing.T) { // P32.2
	r := rand.New(rand.NewSource(3204))
	for range 60 {
		first := stock() + ended(plainText(r, 20, asking)...)
		other := ended(plainText(r, 10, asking+" restore new")...) + "scene 1\npoint =x1 (1,0)\n" + ended(plainText(r, 10, asking)...)
		want := behind(t, first, probe())
		for _, again := range []string{"", "restore\n", other + "restore\n", "new\nrestore\n"} {
			if s := behind(t, first+"keep\n"+other+again+"restore\n", probe()); s != want {
				t.Fatalf("%.500q, %.500q: %.1000q, not %.1000q", first, other, s, want)
			}
		}
	}
}

// apart is what each line of a text answers: between them an order asks for what
// none of them tells.
func apart(t *testing.T, l []string) []string {
	const order, answer = "count 64 2\n", "16256\n"
	var text strings.Builder
	for _, x := range l {
		text.WriteString(x + "\n" + order)
	}
	told := strings.Split(run(t, text.String()), answer)
	if len(told) != len(l)+1 || told[len(l)] != "" {
		t.Fatalf("%.500q: %.500q", text.String(), told)
	}
	return told[:len(l)]
}

// What scene answers is what the lines answer as orders of a new desk, up to the
// first that is refused, without the oks.
func TestSceneAsOrders(t *testing.T) { // P32.2
	r := rand.New(rand.NewSource(3205))
	ends := map[bool]int{}
	for k := range 300 {
		var l []string
		if k%2 == 0 {
			l = parts(strings.ReplaceAll(stock(), "\n", ";"))
		}
		for range r.Intn(12) {
			x := anyStatement(r)
			if s := run(t, "scene 1\n"+x); s != "error 400\n" { // none that is no statement's line
				l = append(l, x)
			}
		}
		done, e, want := len(l), "0", ""
		for n, answer := range apart(t, l) {
			if strings.HasPrefix(answer, "error ") {
				done, e = n, strings.TrimSpace(answer[len("error "):])
				break
			}
			if answer != "ok\n" {
				want += answer
			}
		}
		ends[done == len(l)]++
		text := fmt.Sprint("scene ", len(l), "\n", ended(l...))
		want = fmt.Sprint(done, " ", e, "\n", want)
		wantRun(t, text, want)
		wantRun(t, text+"row 1", want+"0\n1\n")
		wantRun(t, stock()+"draw u\n"+text, run(t, stock()+"draw u\n")+want)
	}
	if ends[true] < 50 || ends[false] < 50 {
		t.Error(ends)
	}
}

// picture behind the same statements is the same, whatever was asked between.
func TestPictureBetween(t *testing.T) { // P32.2
	r := rand.New(rand.NewSource(3206))
	for range 60 {
		text, mixed := stock(), stock()
		for range 30 {
			x := anyStatement(r)
			text += x + "\n"
			for range r.Intn(3) {
				mixed += anyAsk(r, asking+" keep") + "\n"
			}
			if r.Intn(5) == 0 {
				mixed += "scene 2\nround =x1 (0,0) (1,0)\ndraw x1\n"
			}
			if r.Intn(5) == 0 {
				mixed += "keep\nrestore\n"
			}
			mixed += x + "\n"
		}
		want := behind(t, text, "picture\nbox\n")
		if s := behind(t, mixed, "picture\nbox\n"); s != want {
			t.Fatalf("%.1000q: %.500q, not %.500q", mixed, s, want)
		}
	}
}
