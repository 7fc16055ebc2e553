package shop_test

import (
	"reflect"
	"slices"
	"testing"

	"tracery/api"
	"tracery/shop"
)

// roomy is a copy of a scene with spare room behind each of its lists.
func roomy(l []api.Stmt) []api.Stmt {
	out := make([]api.Stmt, len(l), len(l)+3)
	copy(out[:cap(out)], slices.Repeat([]api.Stmt{stmt("spare", "room", named("spare"))}, cap(out)))
	for i, s := range l {
		args := make([]api.Arg, len(s.Args), len(s.Args)+3)
		copy(args[:cap(args)], slices.Repeat([]api.Arg{word(7, 7)}, cap(args)))
		for k, a := range s.Args {
			a.Word = append(slices.Clone(a.Word), 9, 9, 9)[:len(a.Word)]
			args[k] = a
		}
		s.Args = args
		out[i] = s
	}
	return out
}

// whole is all that stands in a scene's lists, spare room included, as copies.
func whole(l []api.Stmt) []api.Stmt {
	out := slices.Clone(l[:cap(l)])
	for i := range out {
		out[i].Args = slices.Clone(out[i].Args[:cap(out[i].Args)])
		for k, a := range out[i].Args {
			out[i].Args[k].Word = slices.Clone(a.Word[:cap(a.Word)])
		}
	}
	return out
}

// spoil writes over all that a scene's lists can reach.
func spoil(l []api.Stmt) {
	for i := range l {
		args := l[i].Args[:cap(l[i].Args)]
		for k := range args {
			w := args[k].Word[:cap(args[k].Word)]
			for j := range w {
				w[j] = -77
			}
			args[k] = named("spoilt")
		}
		l[i] = stmt("spoilt", "spoilt")
	}
}

// What is handed in stays, spare room included, and is not kept.
func TestHandedInStays(t *testing.T) { // P31.1, P31.2
	s := shopOf(t, stock)
	for _, x := range append(sceneOf(t, good), sceneOf(t, "tell nobody; fly; point =u (1,0); word [1.2] [-2.1]; word [1.65]; meet u u")...) {
		c, d := s.Copy(), s.Copy()
		given := roomy([]api.Stmt{x, x})
		kept := whole(given)
		lines, e := c.Do(given[0])
		d.Run(given...)
		if !reflect.DeepEqual(whole(given), kept) {
			t.Fatalf("%s: what was handed in is changed", lineOf(x))
		}
		was, state, other := slices.Clone(lines), stateOf(t, c), stateOf(t, d)
		spoil(given)
		if !slices.Equal(lines, was) {
			t.Fatalf("%s: the lines are what was handed in", lineOf(x))
		}
		wantState(t, lineOf(x), c, state)
		wantState(t, lineOf(x), d, other)
		if again, f := s.Copy().Do(x); !slices.Equal(again, was) || e != f {
			t.Fatalf("%s: another answer the second time", lineOf(x))
		}
	}
}

func spoilLines(l []string) {
	l = l[:cap(l)]
	for k := range l {
		l[k] = "spoilt"
	}
}

func spoilList[T any](l []T) {
	var zero T
	l = l[:cap(l)]
	for k := range l {
		l[k] = zero
	}
}

// What is told is new each time, spare room included: what is done to it, no later
// call tells.
func TestToldIsNew(t *testing.T) { // P31.1 to P31.4
	s := shopOf(t, stock+"; draw n; draw f; draw u")
	c := s.Copy()
	want := stateOf(t, s)
	ask := sceneOf(t, "tell n; tell f; tell g; pack f #2; quotients (355/113,7/9); meet u l; word [1.2.3]")
	lines, n, e := s.Run(ask...)
	if n != len(ask) || e != api.OK {
		t.Fatal(n, e)
	}
	kept := slices.Clone(lines)
	for range 3 {
		for _, name := range want.names {
			l, _ := s.Text(name)
			spoilLines(l)
			x, _ := s.Thing(name)
			spoilList(x.Net.A)
			spoilList(x.Net.B)
			spoilList(x.Net.Row)
			spoilList(x.Net.Column)
			x.Four = [4]api.Disk{}
		}
		p := s.Picture()
		spoilList(p)
		for _, x := range ask {
			l, _ := s.Do(x)
			spoilLines(l)
		}
		again, _, _ := s.Run(ask...)
		if !slices.Equal(again, kept) {
			t.Fatalf("%q, not %q", again, kept)
		}
		spoilLines(again)
		wantState(t, "spoilt", s, want)
		wantState(t, "spoilt", c, want)
		// What is drawn further on stands behind, not in what was told.
		p = s.Picture()
		was := slices.Clone(p[:cap(p)])
		d := s.Copy()
		run(t, d, "draw v; draw n")
		if !slices.Equal(bitsOf(was), bitsOf(p[:cap(p)])) {
			t.Fatal("a picture that was told grows")
		}
	}
	run(t, s, "draw v")
	p := s.Picture()
	spoilList(p)
	run(t, s, "draw v")
	if got := s.Picture(); len(got) != len(want.picture)+2 || !slices.Equal(bitsOf(got[len(got)-1:]), bitsOf([]api.Arc{ring(-2, 3)})) || !slices.Equal(bitsOf(got[len(got)-2:len(got)-1]), bitsOf([]api.Arc{ring(-2, 3)})) {
		t.Errorf("%v", got)
	}
}

// No two lists of a net's sides share, nor those of two things that were told.
func TestNetSidesAreApart(t *testing.T) { // P31.3
	s := shopOf(t, stock)
	first, _ := s.Thing("n")
	second, _ := s.Thing("n")
	kept, _ := s.Thing("n")
	first.Net.A[0] = api.Gauss{}
	first.Net.B[1] = api.Gauss{}
	first.Net.Row[0] = api.Point{}
	if !reflect.DeepEqual(second, kept) || first.Net.Column[0] != kept.Net.Column[0] {
		t.Error("what was told shares")
	}
	for range 2 {
		if x, _ := s.Thing("n"); !reflect.DeepEqual(x, kept) {
			t.Error(x)
		}
	}
	var none *shop.Shop
	if x, _ := none.Thing("n"); x.Net.A != nil || x.Net.Row != nil {
		t.Error(x)
	}
}
