package script_test

import (
	"math/rand"
	"slices"
	"testing"

	"tracery/api"
	"tracery/script"
)

// P30.6: Read of Line is the statement, Line of Read the line.
func TestThereAndBack(t *testing.T) {
	r := rand.New(rand.NewSource(306))
	l := goodStmts()
	for range 2000 {
		l = append(l, anyStmt(r))
	}
	for _, s := range l {
		line, e := script.Line(s)
		x, f := script.Read(line)
		if e != api.OK || f != api.OK || !sameOf(x, s) || !script.Same(x, s) || script.Check(x) != api.OK {
			t.Fatalf("%.300v: %.300q, %v, %v", s, line, e, f)
		}
		again, e := script.Line(x)
		if again != line || e != api.OK {
			t.Fatalf("%.300q: %.300q, %v", line, again, e)
		}
	}
}

// P30.6: no two unlike statements have one line.
func TestLinesAreUnlike(t *testing.T) {
	r := rand.New(rand.NewSource(307))
	l := goodStmts()
	args := goodArgs()
	for range 3000 {
		l = append(l, anyStmt(r), stmt("a", "", args[r.Intn(len(args))], args[r.Intn(len(args))]))
	}
	met := map[string]api.Stmt{}
	for _, s := range l {
		line, e := script.Line(s)
		if e != api.OK {
			t.Fatal(e)
		}
		if x, ok := met[line]; ok && !sameOf(x, s) {
			t.Fatalf("%.300q", line)
		}
		met[line] = s
	}
}

// P30.6: what a statement needs, taken alone, is a scene in order, whose last one
// is that statement; and each of it is needed.
func TestNeedsAlone(t *testing.T) {
	r := rand.New(rand.NewSource(308))
	asked := 0
	for range 5000 {
		scene := anyScene(r, true)
		for _, name := range script.Names(scene...) {
			l, e := script.Needs(scene, name)
			if e != api.OK || !slices.IsSorted(l) || len(slices.Compact(slices.Clone(l))) != len(l) {
				t.Fatal(l, e)
			}
			var alone []api.Stmt
			for _, at := range l {
				alone = append(alone, scene[at])
			}
			if n, e := script.Order(alone...); n != len(alone) || e != api.OK || alone[n-1].Name != name {
				t.Fatal(scene, name, l)
			}
			all, e := script.Needs(alone, name)
			if e != api.OK || len(all) != len(alone) {
				t.Fatal(scene, name, l, all)
			}
			for k := range len(alone) - 1 {
				if _, e := script.Order(slices.Delete(slices.Clone(alone), k, k+1)...); e != api.ErrName {
					t.Fatal(scene, name, l, k)
				}
			}
			asked++
		}
	}
	if asked < 5000 {
		t.Error(asked)
	}
}
