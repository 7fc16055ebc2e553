package script_test

import (
	"iter"
	"math"
	"math/big"
	"math/rand"
	"reflect"
	"slices"
	"strings"
	"testing"

	"tracery/api"
)

func stmt(verb, name string, args ...api.Arg) api.Stmt {
	return api.Stmt{Verb: verb, Name: name, Args: args}
}

func named(s string) api.Arg { return api.Arg{Kind: api.ArgName, Name: s} }

func inf() api.Arg { return api.Arg{Kind: api.ArgInf} }

func word(w ...int) api.Arg { return api.Arg{Kind: api.ArgWord, Word: w} }

func count(n int) api.Arg { return api.Arg{Kind: api.ArgCount, Count: n} }

func number(re, im api.Frac) api.Arg {
	return api.Arg{Kind: api.ArgNumber, Z: api.Gauss{Re: re, Im: im}}
}

// of tells a whole number's one form.
func of(n *big.Int) api.Whole {
	return api.Whole{Neg: n.Sign() < 0, Mag: string(n.Bytes())}
}

// over is one number over another, as they stand.
func over(num, den int64) api.Frac {
	return api.Frac{Num: of(big.NewInt(num)), Den: of(big.NewInt(den))}
}

func plain(n int64) api.Frac { return over(n, 1) }

// wide is a magnitude of n bytes, all bits of which are 1; high the one with the
// first bit alone.
func wide(n int) api.Whole { return api.Whole{Mag: strings.Repeat("\xff", n)} }

func high(n int) api.Whole { return api.Whole{Mag: "\x80" + strings.Repeat("\x00", n-1)} }

func negative(w api.Whole) api.Whole {
	w.Neg = true
	return w
}

// goodFracs may be; those as long as may be among them.
func goodFracs() []api.Frac {
	return []api.Frac{
		plain(0), plain(1), plain(-1), plain(10), plain(-256), over(1, 2), over(-1, 2), over(3, 10), over(-7, 100), over(255, 256),
		{Num: wide(api.MaxWhole), Den: high(api.MaxWhole)}, {Num: negative(wide(api.MaxWhole)), Den: of(big.NewInt(1))}, {Num: of(big.NewInt(-1)), Den: wide(api.MaxWhole)}, {Num: of(big.NewInt(1)), Den: high(api.MaxWhole)},
	}
}

// wrongFracs may not be: not in lowest terms, over 0 or below, with numbers that
// are not in their one form, too long.
func wrongFracs() []api.Frac {
	one := of(big.NewInt(1))
	return []api.Frac{
		{}, over(2, 4), over(-3, 3), over(0, 2), over(0, -1), over(1, 0), over(0, 0), over(1, -2), over(-1, -2), {Num: one}, {Den: api.Whole{Neg: true}},
		{Num: api.Whole{Mag: "\x00"}, Den: one}, {Num: api.Whole{Mag: "\x00\x01"}, Den: one}, {Num: api.Whole{Neg: true}, Den: one}, {Num: one, Den: api.Whole{Mag: "\x00\x03"}}, {Num: one, Den: api.Whole{Mag: "\x00"}}, {Num: one, Den: negative(one)},
		{Num: wide(api.MaxWhole + 1), Den: one}, {Num: negative(wide(api.MaxWhole + 1)), Den: one}, {Num: one, Den: high(api.MaxWhole + 1)}, {Num: wide(api.MaxWide + 1), Den: one}, {Num: one, Den: wide(api.MaxWide + 1)},
	}
}

func letters(n, k int) []int { return slices.Repeat([]int{k}, n) }

// goodArgs may be, of each kind, the edges among them.
func goodArgs() []api.Arg {
	l := []api.Arg{
		named("a"), named("z"), named("a-"), named("a--9"), named("inf"), named("z0"), named("draw"), named("a" + strings.Repeat("-", 31)), named(strings.Repeat("z", 32)),
		inf(), word(), {Kind: api.ArgWord, Word: []int{}}, word(1), word(-1), word(1, -2), word(4096, -4096, 10, 65), word(7, 7, 7), word(letters(api.MaxList, 3)...), word(letters(api.MaxList, -4096)...),
		count(0), count(7), count(10), count(math.MaxInt32),
		{Kind: api.ArgName, Name: "b", Word: []int{}}, {Kind: api.ArgInf, Word: []int{}}, {Kind: api.ArgCount, Count: 3, Word: []int{}},
	}
	for _, x := range goodFracs() {
		l = append(l, number(x, plain(0)), number(plain(-3), x))
	}
	return append(l, api.Arg{Kind: api.ArgNumber, Z: l[len(l)-1].Z, Word: []int{}})
}

// wrongArgs may not be: of no kind, with something in a field that the kind does
// not name, with a thing that may not be in the one that it does.
func wrongArgs() []api.Arg {
	var l []api.Arg
	for _, a := range []api.Arg{{}, named("a"), number(plain(1), plain(2)), inf(), word(1), count(1)} {
		for _, kind := range []api.ArgKind{0, 6, 7, -1, -4, math.MinInt, math.MaxInt, 1<<32 + 1, 1<<32 + 3, 1 << 33} {
			b := a
			b.Kind = kind
			l = append(l, b)
		}
		for _, b := range []api.Arg{named("b"), number(plain(0), plain(0)), word(2), count(2), count(-1)} {
			c := a // with the field of another kind
			switch {
			case a.Kind == b.Kind || a.Kind == 0:
				continue
			case b.Kind == api.ArgName:
				c.Name = b.Name
			case b.Kind == api.ArgNumber:
				c.Z = b.Z
			case b.Kind == api.ArgWord:
				c.Word = b.Word
			case b.Kind == api.ArgCount:
				c.Count = b.Count
			}
			l = append(l, c)
			c.Name, c.Z, c.Word, c.Count = b.Name, b.Z, b.Word, b.Count // with that field alone
			l = append(l, c)
		}
		if a.Kind != api.ArgNumber {
			for _, den := range []int64{0, 1} { // one number of four is enough
				b := a
				b.Z.Im = over(5*(1-den), den)
				l = append(l, b)
				b.Z = api.Gauss{Re: b.Z.Im}
				l = append(l, b)
			}
			b := a
			b.Z.Im.Num.Neg = true
			l = append(l, b)
		}
	}
	for _, s := range wrongNames() {
		l = append(l, named(s))
	}
	for _, x := range wrongFracs() {
		l = append(l, number(x, plain(1)), number(over(1, 2), x), number(x, x))
	}
	for _, w := range [][]int{{0}, {4097}, {-4097}, {math.MaxInt}, {math.MinInt}, {1, 0}, {0, 1}, {1, 2, 4097, 3}, letters(api.MaxList+1, 1), append(letters(api.MaxList-1, 1), 0)} {
		l = append(l, word(w...))
	}
	for _, n := range []int{-1, math.MaxInt32 + 1, math.MinInt, math.MaxInt, 1 << 32} {
		l = append(l, count(n))
	}
	return l
}

func wrongNames() []string {
	return []string{
		"", "A", "aB", "C", "0", "0a", "-", "-a", "a b", "a_", "a.", "a=", "=a", "a\n", "a\x00", "a\x7f", "\x80", "a\xff", "\xc3\xa4", "a\xc3\xa4", "a`", "`", "a{", "{", "a/", "a:", "a,", "a+",
		strings.Repeat("a", 33), "a" + strings.Repeat("0", 32), strings.Repeat("a", 32) + "-", strings.Repeat("a", 1000),
	}
}

func wrongVerbs() []string {
	return []string{
		"", "Draw", "dRaw", "draw0", "0draw", "draw-", "-draw", "dr-aw", "dr4w", "draw ", " draw", "=", "dr=w", "draw\n", "draw\x00", "dr\xc3\xa4w", "\xff", "draw\x80", "`", "{", "a{", "a`",
		strings.Repeat("a", 17), strings.Repeat("z", 16) + "-", strings.Repeat("a", 1000),
	}
}

// goodStmts may be.
func goodStmts() []api.Stmt {
	l := []api.Stmt{
		stmt("draw", ""), {Verb: "draw", Args: []api.Arg{}}, stmt("a", ""), stmt("z", "z"), stmt(strings.Repeat("a", 16), strings.Repeat("z", 32)), stmt("zyxwvutsrqponmlk", "a-0"),
		stmt("draw", "draw", named("draw")), stmt("inf", "inf", inf(), named("inf")),
		stmt("circle", "c", named("a"), number(over(1, 2), plain(-1)), inf(), word(1, -2), count(7)),
		stmt("a", "", slices.Repeat([]api.Arg{named("b")}, 64)...), stmt("a", "b", slices.Repeat([]api.Arg{inf()}, 64)...),
	}
	for _, a := range goodArgs() {
		l = append(l, stmt("draw", "", a), stmt("draw", "c", count(1), a), stmt("draw", "", a, a, named("x")))
	}
	return l
}

// wrongStmts may not be.
func wrongStmts() []api.Stmt {
	l := []api.Stmt{{}, stmt("", "a"), stmt("a", "", slices.Repeat([]api.Arg{named("b")}, 65)...), stmt("a", "b", slices.Repeat([]api.Arg{inf()}, 65)...)}
	for _, s := range wrongVerbs() {
		l = append(l, stmt(s, ""), stmt(s, "a", inf()))
	}
	for _, s := range wrongNames() {
		if s != "" {
			l = append(l, stmt("draw", s), stmt("draw", s, inf()))
		}
	}
	for _, a := range wrongArgs() {
		l = append(l, stmt("draw", "", a), stmt("draw", "c", inf(), a), stmt("draw", "", a, inf()), stmt("draw", "", append(slices.Repeat([]api.Arg{inf()}, 63), a)...))
	}
	return l
}

func anyName(r *rand.Rand) string {
	const first, all = "abcz", "abcz019-"
	s := []byte{first[r.Intn(len(first))]}
	for range max(0, r.Intn(40)-8) {
		s = append(s, all[r.Intn(len(all))])
	}
	return string(s)
}

func anyFrac(r *rand.Rand) api.Frac {
	num, den := big.NewInt(r.Int63n(40)-20), big.NewInt(1+r.Int63n(20))
	if r.Intn(8) == 0 {
		num.Rand(r, new(big.Int).Lsh(num.SetInt64(1), uint(r.Intn(8*api.MaxWhole))))
	}
	if r.Intn(8) == 0 {
		den.Rand(r, new(big.Int).Lsh(den.SetInt64(1), uint(r.Intn(8*api.MaxWhole))))
		den.Add(den, big.NewInt(1))
	}
	x := new(big.Rat).SetFrac(num, den)
	return api.Frac{Num: of(x.Num()), Den: of(x.Denom())}
}

func anyArg(r *rand.Rand) api.Arg {
	switch r.Intn(5) {
	case 0:
		return named(anyName(r))
	case 1:
		return number(anyFrac(r), anyFrac(r))
	case 2:
		return inf()
	case 3:
		return count(r.Intn(1 << r.Intn(32)))
	}
	w := make([]int, r.Intn(12))
	for i := range w {
		for w[i] == 0 {
			w[i] = r.Intn(8193) - 4096
		}
	}
	return word(w...)
}

// anyStmt may be.
func anyStmt(r *rand.Rand) api.Stmt {
	s := api.Stmt{Verb: strings.Repeat("verb", 4)[:1+r.Intn(16)]}
	if r.Intn(2) == 0 {
		s.Name = anyName(r)
	}
	for range r.Intn(9) {
		s.Args = append(s.Args, anyArg(r))
	}
	return s
}

// nothing tells whether a statement is the zero one, without even an empty list.
func nothing(s api.Stmt) bool { return reflect.DeepEqual(s, api.Stmt{}) }

// copied is a statement that shares no list with s.
func copied(s api.Stmt) api.Stmt {
	s.Args = slices.Clone(s.Args)
	for i := range s.Args {
		s.Args[i].Word = slices.Clone(s.Args[i].Word)
	}
	return s
}

func copies(l []api.Stmt) []api.Stmt {
	out := make([]api.Stmt, len(l))
	for i, s := range l {
		out[i] = copied(s)
	}
	return out
}

// tally counts how often each error came up, so that a test can tell that it asked.
type tally map[api.Errno]int

func (l tally) want(t *testing.T, least int, all ...api.Errno) {
	t.Helper()
	for _, e := range all {
		if l[e] < least {
			t.Errorf("%v came up only %d times", e, l[e])
		}
	}
}

// gather takes up to so many (all, if below 0), and asks whether they are numbered
// from 0 on.
func gather(t *testing.T, all iter.Seq2[int, api.Stmt], most int) []api.Stmt {
	t.Helper()
	var l []api.Stmt
	if most == 0 {
		return l
	}
	for i, s := range all {
		if i != len(l) {
			t.Fatalf("the number %d at the place %d", i, len(l))
		}
		l = append(l, s)
		if len(l) == most {
			break
		}
	}
	return l
}

func wantStmts(t *testing.T, what string, got, want []api.Stmt) {
	t.Helper()
	if !slices.EqualFunc(got, want, sameOf) {
		t.Fatalf("%.200s: %d statements, not these %d, or others", what, len(got), len(want))
	}
}
