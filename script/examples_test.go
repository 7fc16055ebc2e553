package script_test

import (
	"slices"
	"testing"

	"tracery/api"
	"tracery/script"
)

// The table 'Examples' of the chapter, row by row.
func TestExamples(t *testing.T) {
	s := stmt("circle", "c", named("a"), number(over(1, 2), plain(-1)), inf(), word(1, -2), count(7)) // P30.1
	if l, e := script.Line(s); l != "circle =c a (1/2,-1) (inf) [1.-2] #7" || e != api.OK {
		t.Errorf("%q, %v", l, e)
	}
	if l, e := script.Line(stmt("draw", "", named("c"))); l != "draw c" || e != api.OK {
		t.Errorf("%q, %v", l, e)
	}
	for _, s := range []api.Stmt{stmt("Draw", "", named("c")), stmt("draw", "C", named("c"))} {
		if l, e := script.Line(s); l != "" || e != api.ErrArg {
			t.Errorf("%q, %v", l, e)
		}
	}

	if s, e := script.Read("draw c"); e != api.OK || s.Verb != "draw" || s.Name != "" || len(s.Args) != 1 || s.Args[0].Kind != api.ArgName || s.Args[0].Name != "c" {
		t.Error(s, e)
	}
	for _, line := range []string{"draw  c", "draw =", "draw (1,2", "draw (2/4,0)", "draw #07"} {
		if s, e := script.Read(line); !nothing(s) || e != api.ErrLine {
			t.Errorf("%q: %v, %v", line, s, e)
		}
	}
	if s, e := script.Read("draw []"); e != api.OK || len(s.Args) != 1 || s.Args[0].Kind != api.ArgWord || len(s.Args[0].Word) != 0 {
		t.Error(s, e)
	}

	if l, n, e := script.Parse("draw c\n"); len(l) != 1 || n != 1 || e != api.OK { // P30.2
		t.Error(l, n, e)
	}
	if l, n, e := script.Parse("draw c"); l != nil || n != 0 || e != api.ErrLine {
		t.Error(l, n, e)
	}
	if l, n, e := script.Parse(""); len(l) != 0 || n != 0 || e != api.OK {
		t.Error(l, n, e)
	}

	point := stmt("point", "a") // P30.4
	if n, e := script.Order(stmt("point", "a", number(plain(1), plain(0))), stmt("draw", "", named("a"))); n != 2 || e != api.OK {
		t.Error(n, e)
	}
	if n, e := script.Order(stmt("draw", "", named("a"))); n != 0 || e != api.ErrName {
		t.Error(n, e)
	}
	if n, e := script.Order(point, point); n != 1 || e != api.ErrName {
		t.Error(n, e)
	}
	if l, e := script.Needs([]api.Stmt{point, stmt("point", "b"), stmt("circle", "c", named("a"), named("a"))}, "c"); !slices.Equal(l, []int{0, 2}) || e != api.OK {
		t.Error(l, e)
	}
}
