package script_test

import (
	"math/rand"
	"slices"
	"strings"
	"testing"

	"tracery/api"
	"tracery/script"
)

// roomy is a copy of a scene with spare room behind each of its lists, filled with
// what a call must leave alone.
func roomy(l []api.Stmt) []api.Stmt {
	out := make([]api.Stmt, len(l), len(l)+3)
	spare := stmt("spare", "room", named("spare"))
	copy(out[:cap(out)], slices.Repeat([]api.Stmt{spare}, cap(out)))
	for i, s := range l {
		args := make([]api.Arg, len(s.Args), len(s.Args)+3)
		copy(args[:cap(args)], slices.Repeat([]api.Arg{word(7, 7)}, cap(args)))
		for k, a := range s.Args {
			w := append(slices.Clone(a.Word), 9, 9, 9)
			a.Word = w[:len(a.Word)]
			args[k] = a
		}
		s.Args = args
		out[i] = s
	}
	return out
}

// whole are all statements of a scene's list with all that stands in their lists,
// spare room included, as copies.
func whole(l []api.Stmt) []api.Stmt {
	out := slices.Clone(l[:cap(l)])
	for i := range out {
		out[i].Args = slices.Clone(out[i].Args[:cap(out[i].Args)])
		for k, a := range out[i].Args {
			out[i].Args[k].Word = slices.Clone(a.Word[:cap(a.Word)])
		}
	}
	return out
}

// spoil writes over all that a statement's lists can reach.
func spoil(s api.Stmt) {
	args := s.Args[:cap(s.Args)]
	for k := range args {
		w := args[k].Word[:cap(args[k].Word)]
		for i := range w {
			w[i] = -77
		}
		args[k] = named("spoilt")
	}
}

// P30.1 to P30.5: what is handed in stays, spare room included, and is not kept.
func TestHandedInStays(t *testing.T) {
	r := rand.New(rand.NewSource(309))
	for range 200 {
		scene := anyScene(r, true)
		for k := range scene {
			scene[k].Args = append(scene[k].Args, word(1, -2, 3), count(k), number(anyFrac(r), anyFrac(r)))
		}
		if r.Intn(4) == 0 && len(scene) > 0 {
			scene[r.Intn(len(scene))].Verb = "" // refused calls leave it as well
		}
		given := roomy(scene)
		kept := whole(given)
		text, n, e := script.Text(given...)
		at, f := script.Order(given...)
		names := script.Names(given...)
		for _, s := range given {
			script.Check(s)
			script.Line(s)
			script.Same(s, given[0])
		}
		var needs [][]int
		for _, name := range names {
			l, _ := script.Needs(given, name)
			needs = append(needs, l)
		}
		if !slices.EqualFunc(whole(given), kept, sameOf) {
			t.Fatal("what was handed in is changed")
		}
		wantNames := slices.Clone(names)
		again := roomy(scene)
		for k := range given {
			spoil(given[k])
			given[k] = stmt("spoilt", "spoilt")
		}
		if !slices.Equal(names, wantNames) {
			t.Fatal("the names are what was handed in")
		}
		text2, n2, e2 := script.Text(again...)
		at2, f2 := script.Order(again...)
		if text != text2 || n != n2 || e != e2 || at != at2 || f != f2 || !slices.Equal(names, script.Names(again...)) {
			t.Fatal("another answer the second time")
		}
		for k, name := range names {
			if l, _ := script.Needs(again, name); !slices.Equal(l, needs[k]) {
				t.Fatal("another answer the second time")
			}
		}
	}
}

// P30.1 to P30.4: what is told is new each time, spare room included, and shares
// nothing within itself.
func TestToldIsNew(t *testing.T) {
	text := "point =p (1,0) [1.2.3] [4.5.6.7.8] c [] d [9]\ndraw c [1.2.3]\nword [1.-2] [3] [1.2.3]\nfar #1 (inf) p\n"
	want, _ := headOf(text)
	line, _, _ := strings.Cut(text, "\n")
	for at := range want {
		l, _, e := script.Parse(text)
		if e != api.OK {
			t.Fatal(e)
		}
		spoil(l[at])
		for k := range l {
			if k != at && !sameOf(l[k], want[k]) {
				t.Fatal(at, k, l[k])
			}
		}
		l = l[:cap(l)]
		for k := range l {
			l[k] = api.Stmt{Verb: "spoilt"}
		}
		all := gather(t, script.All(text), -1)
		spoil(all[at])
		for k := range all {
			if k != at && !sameOf(all[k], want[k]) {
				t.Fatal(at, k, all[k])
			}
		}
		l, _, _ = script.Parse(text)
		wantStmts(t, text, l, want)
		wantStmts(t, text, gather(t, script.All(text), -1), want)
	}
	first, _ := script.Read(line)
	for at := range first.Args {
		s, e := script.Read(line)
		if e != api.OK {
			t.Fatal(e)
		}
		w := s.Args[at].Word[:cap(s.Args[at].Word)]
		for k := range w {
			w[k] = -77
		}
		for k, a := range s.Args {
			if k != at && !sameArgOf(a, first.Args[k]) {
				t.Fatal(at, k, a)
			}
		}
	}
	if !sameOf(first, want[0]) {
		t.Fatal(first)
	}
	// One going over, spoilt on the way.
	all := script.All(text)
	for i, s := range all {
		if !sameOf(s, want[i]) {
			t.Fatal(i, s)
		}
		for j, x := range all {
			if !sameOf(x, want[j]) {
				t.Fatal(i, j, x)
			}
			spoil(x)
		}
		if !sameOf(s, want[i]) {
			t.Fatal(i, s)
		}
		spoil(s)
	}
}

func TestListsAreNew(t *testing.T) { // P30.4
	scene := sceneOf(t, "point =a; point =b; circle =c a b; draw c")
	names := script.Names(scene...)
	needs, _ := script.Needs(scene, "c")
	for range 3 {
		names, needs = names[:cap(names)], needs[:cap(needs)]
		for k := range names {
			names[k] = "spoilt"
		}
		for k := range needs {
			needs[k] = -1
		}
		names = script.Names(scene...)
		needs, _ = script.Needs(scene, "c")
		if !slices.Equal(names, []string{"a", "b", "c"}) || !slices.Equal(needs, []int{0, 1, 2}) {
			t.Fatal(names, needs)
		}
	}
}
