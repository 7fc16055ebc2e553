package script_test

import (
	"math"
	"math/rand"
	"testing"

	"tracery/api"
	"tracery/script"
)

func TestSameExamples(t *testing.T) { // P30.5
	none, empty := []api.Arg(nil), []api.Arg{}
	for _, x := range []struct {
		a, b api.Stmt
		same bool
	}{
		{api.Stmt{}, api.Stmt{}, true},
		{api.Stmt{Verb: "a", Args: none}, api.Stmt{Verb: "a", Args: empty}, true},
		{stmt("a", "", word()), stmt("a", "", api.Arg{Kind: api.ArgWord, Word: []int{}}), true},
		{stmt("a", "", inf()), stmt("a", "", api.Arg{Kind: api.ArgInf, Word: []int{}}), true},
		{stmt("a", "b", word(1, 2), count(3)), stmt("a", "b", word(1, 2), count(3)), true},
		{stmt("a", ""), stmt("b", ""), false},
		{stmt("a", ""), stmt("a", "a"), false},
		{stmt("a", "b"), stmt("b", "a"), false},
		{stmt("a", "b"), stmt("a", "c"), false},
		{stmt("a", ""), stmt("a", "", inf()), false},
		{stmt("a", "", inf()), stmt("a", "", inf(), inf()), false},
		{stmt("a", "", inf(), word()), stmt("a", "", word(), inf()), false},
		{stmt("a", "", word(1)), stmt("a", "", word(-1)), false},
		{stmt("a", "", word(1)), stmt("a", "", word(1, 1)), false},
		{stmt("a", "", word()), stmt("a", "", word(1)), false},
		{stmt("a", "", word(), word(1)), stmt("a", "", word(1), word()), false},
		{stmt("a", "", count(1)), stmt("a", "", count(2)), false},
		{stmt("a", "", named("b")), stmt("a", "", named("c")), false},
		{stmt("a", "b"), stmt("a", "", named("b")), false},
		{stmt("a", "", number(plain(1), plain(0))), stmt("a", "", number(plain(0), plain(1))), false},
		{stmt("a", "", number(over(1, 2), plain(0))), stmt("a", "", number(plain(1), plain(0))), false},
		// Of such that may not be it is asked as well: as they stand.
		{stmt("", "X", number(over(1, 2), plain(0))), stmt("", "X", number(over(1, 2), plain(0))), true},
		{stmt("a", "", number(over(1, 2), plain(0))), stmt("a", "", number(over(2, 4), plain(0))), false},
		{stmt("a", "", number(plain(0), plain(0))), stmt("a", "", api.Arg{Kind: api.ArgNumber}), false},
		{stmt("a", "", api.Arg{Kind: math.MinInt}), stmt("a", "", api.Arg{Kind: math.MinInt}), true},
		{stmt("a", "", api.Arg{Kind: api.ArgInf}), stmt("a", "", api.Arg{Kind: api.ArgInf, Count: 1}), false},
		{stmt("a", "", api.Arg{Kind: api.ArgInf}), stmt("a", "", api.Arg{Kind: api.ArgInf, Name: "b"}), false},
		{stmt("a", "", api.Arg{Kind: api.ArgInf}), stmt("a", "", api.Arg{Kind: api.ArgInf, Word: []int{0}}), false},
		{stmt("a", "", api.Arg{Kind: api.ArgInf}), stmt("a", "", api.Arg{}), false},
		{stmt("a", "", word(letters(5000, 0)...)), stmt("a", "", word(letters(5000, 0)...)), true},
	} {
		if script.Same(x.a, x.b) != x.same || script.Same(x.b, x.a) != x.same {
			t.Errorf("Same(%.200v, %.200v)", x.a, x.b)
		}
	}
}

func TestSameMany(t *testing.T) { // P30.5
	l := append(goodStmts(), wrongStmts()...)
	for _, a := range l {
		if !script.Same(a, copied(a)) {
			t.Fatalf("%.200v is not itself", a)
		}
	}
	r := rand.New(rand.NewSource(305))
	for range 20000 {
		a, b := l[r.Intn(len(l))], l[r.Intn(len(l))]
		if script.Same(a, b) != sameOf(a, b) {
			t.Fatalf("Same(%.200v, %.200v)", a, b)
		}
	}
	args := append(goodArgs(), wrongArgs()...)
	for range 20000 { // unlike in one argument alone
		a := anyStmt(r)
		if len(a.Args) == 0 {
			continue
		}
		b := copied(a)
		b.Args[r.Intn(len(b.Args))] = args[r.Intn(len(args))]
		if script.Same(a, b) != sameOf(a, b) {
			t.Fatalf("Same(%.200v, %.200v)", a, b)
		}
	}
}
