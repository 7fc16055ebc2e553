package shop_test

import (
	"math"
	"math/big"
	"reflect"
	"slices"
	"strings"
	"testing"

	"tracery/api"
	"tracery/script"
	"tracery/shop"
)

// read reads a statement from its line.
func read(t *testing.T, line string) api.Stmt {
	t.Helper()
	x, e := script.Read(line)
	if e != api.OK {
		t.Fatalf("%.300q is no statement's line", line)
	}
	return x
}

// parts are what stands between two semicolons.
func parts(text string) []string {
	var l []string
	for _, x := range strings.Split(text, ";") {
		if x = strings.TrimSpace(x); x != "" {
			l = append(l, x)
		}
	}
	return l
}

// sceneOf reads statements, with ; between.
func sceneOf(t *testing.T, text string) []api.Stmt {
	t.Helper()
	var l []api.Stmt
	for _, line := range parts(text) {
		l = append(l, read(t, line))
	}
	return l
}

// run does what must go well, and tells the lines.
func run(t *testing.T, s *shop.Shop, text string) []string {
	t.Helper()
	lines, n, e := s.Run(sceneOf(t, text)...)
	if e != api.OK {
		t.Fatalf("%.300s: statement %d: %v", text, n, e)
	}
	return lines
}

func shopOf(t *testing.T, text string) *shop.Shop {
	t.Helper()
	s := shop.New()
	run(t, s, text)
	return s
}

// wantDo does one statement, and asks that one that is refused changes nothing.
func wantDo(t *testing.T, s *shop.Shop, x api.Stmt, want []string, wantE api.Errno) {
	t.Helper()
	old := stateOf(t, s)
	lines, e := s.Do(x)
	if !slices.Equal(lines, want) || e != wantE {
		t.Fatalf("%.300s: %.300q, %v, not %.300q, %v", lineOf(x), lines, e, want, wantE)
	}
	if e != api.OK {
		if lines != nil {
			t.Fatalf("%.300s: a list beside %v", lineOf(x), e)
		}
		wantState(t, lineOf(x), s, old)
	}
}

func lineOf(x api.Stmt) string {
	line, e := script.Line(x)
	if e != api.OK {
		return "(no statement that may be)"
	}
	return line
}

func wantLine(t *testing.T, s *shop.Shop, line string, want ...string) {
	t.Helper()
	wantDo(t, s, read(t, line), want, api.OK)
}

func wantError(t *testing.T, s *shop.Shop, line string, e api.Errno) {
	t.Helper()
	wantDo(t, s, read(t, line), nil, e)
}

// wantText asks for the text of a thing, and that tell tells it, too.
func wantText(t *testing.T, s *shop.Shop, name string, want ...string) {
	t.Helper()
	if l, e := s.Text(name); !slices.Equal(l, want) || e != api.OK {
		t.Fatalf("%s: %.300q, %v, not %.300q", name, l, e, want)
	}
	wantLine(t, s, "tell "+name, want...)
}

// state is all that a shop tells.
type state struct {
	size    int
	names   []string
	kinds   []api.ThingKind
	things  []api.Thing
	texts   [][]string
	picture []api.Arc
}

func stateOf(t *testing.T, s *shop.Shop) state {
	t.Helper()
	x := state{size: s.Len()}
	x.picture = append(x.picture, s.Picture()...)
	for name, kind := range s.All() {
		thing, e := s.Thing(name)
		text, f := s.Text(name)
		if e != api.OK || f != api.OK || thing.Kind != kind {
			t.Fatalf("%s: %v, %v, the kinds %v and %v", name, e, f, kind, thing.Kind)
		}
		x.names, x.kinds = append(x.names, name), append(x.kinds, kind)
		x.things, x.texts = append(x.things, thing), append(x.texts, append([]string{}, text...))
	}
	return x
}

func wantState(t *testing.T, what string, s *shop.Shop, want state) {
	t.Helper()
	if x := stateOf(t, s); !reflect.DeepEqual(x, want) {
		t.Fatalf("%.300s: %.1000v, not %.1000v", what, x, want)
	}
}

func stmt(verb, name string, args ...api.Arg) api.Stmt {
	return api.Stmt{Verb: verb, Name: name, Args: args}
}

func named(s string) api.Arg { return api.Arg{Kind: api.ArgName, Name: s} }

func inf() api.Arg { return api.Arg{Kind: api.ArgInf} }

func word(w ...int) api.Arg { return api.Arg{Kind: api.ArgWord, Word: w} }

func count(n int) api.Arg { return api.Arg{Kind: api.ArgCount, Count: n} }

func number(re, im api.Frac) api.Arg {
	return api.Arg{Kind: api.ArgNumber, Z: api.Gauss{Re: re, Im: im}}
}

func along(x api.Frac) api.Arg { return number(x, plain(0)) }

// over is one number over another, in lowest terms.
func over(num, den *big.Int) api.Frac {
	r := new(big.Rat).SetFrac(num, den)
	return api.Frac{Num: wholeOf(r.Num()), Den: wholeOf(r.Denom())}
}

func wholeOf(n *big.Int) api.Whole {
	return api.Whole{Neg: n.Sign() < 0, Mag: string(n.Bytes())}
}

func plain(n int64) api.Frac { return over(big.NewInt(n), big.NewInt(1)) }

// twos is 2 to the power n, for any n.
func twos(n int) api.Frac {
	if n < 0 {
		return over(big.NewInt(1), power(-n))
	}
	return over(power(n), big.NewInt(1))
}

func power(n int) *big.Int { return new(big.Int).Lsh(big.NewInt(1), uint(n)) }

// longest is the greatest whole number that a fraction may have.
func longest() api.Frac {
	return over(new(big.Int).Sub(power(8*api.MaxWhole), big.NewInt(1)), big.NewInt(1))
}

// stock has things of each kind: the four that touch, the mirrors Modular, nets
// with and without infinity, and what is longest.
const stock = `point =zero (0,0); point =one (1,0); point =i (0,1); point =two (2,0); point =inf (inf); point =q (3/2,-1/2); point =deep (1/3,1/2);
map =m (2,0) (1,0) (0,0) (1,0); map =j (0,0) (1,0) (1,0) (0,0); turn =t (1,0) (0,1) (0,0) (1,0); map =r (0,1) (0,0) (0,0) (1,0); map =w (1,1) (0,0) (0,0) (1,0);
round =u (0,0) (1,0); round =v (2,0) (1,0); round =x (6,0) (5,0); line =l (1,0) (0,0); line =y (1,0) (1/2,0);
disk =o (0,0) (-1,0); disk =a (1/2,0) (1/2,0); disk =b (-1/2,0) (1/2,0); disk =c (0,2/3) (1/3,0); half =h (0,1) (0,0);
four =f o a b c; knife =k (1/2,0);
net =n #2 #2 (1,0) (1,0) (-1,0) (-1,0) zero one two i (0,2); net =ni #1 #1 (2,0) (1,0) inf zero i;
mirrors =g l #1 y #0 u #1; mirrors =e`

// kindsOfStock are the names of the stock by the letters of the chapter's tables.
var kindsOfStock = map[byte][]string{
	'P': {"zero", "one", "i", "two", "inf", "q", "deep"}, 'M': {"m", "j", "t", "r", "w"}, 'C': {"u", "v", "x", "l", "y"},
	'D': {"o", "a", "b", "c", "h"}, 'F': {"f", "k"}, 'N': {"n", "ni"}, 'G': {"g", "e"},
}

// anyArgs are arguments of each kind, names of things of each kind among them, and
// one that does not stand.
func anyArgs() []api.Arg {
	l := []api.Arg{named("nobody"), along(plain(0)), along(plain(1)), number(plain(0), plain(1)), number(plain(1), plain(-1)), inf(), word(), word(1, -2), count(0), count(1), count(2), count(math.MaxInt32)}
	for _, names := range kindsOfStock {
		l = append(l, named(names[0]))
	}
	slices.SortFunc(l[len(l)-len(kindsOfStock):], func(a, b api.Arg) int { return strings.Compare(a.Name, b.Name) })
	return l
}

// tally counts how often each error came up, so that a test can tell that it asked.
type tally map[api.Errno]int

func (l tally) want(t *testing.T, least int, all ...api.Errno) {
	t.Helper()
	for _, e := range all {
		if l[e] < least {
			t.Errorf("%v came up only %d times", e, l[e])
		}
	}
}
