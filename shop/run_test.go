package shop_test

import (
	"reflect"
	"slices"
	"testing"

	"tracery/api"
	"tracery/shop"
)

// Run with an error at the head, in the midst, at the end, and with none.
func TestRun(t *testing.T) { // P31.2
	for _, x := range []struct {
		scene string
		lines []string
		done  int
		e     api.Errno
		names int
	}{
		{"", nil, 0, api.OK, 0},
		{"word [1]", []string{"1"}, 1, api.OK, 0},
		{"fly; word [1]; point =p (1,0)", nil, 0, api.ErrVerb, 0},
		{"tell p; word [1]; point =p (1,0)", nil, 0, api.ErrName, 0},
		{"word [1]; point =p (1,0); tell p; tell q; point =q (1,0); word [2]", []string{"1", "1"}, 3, api.ErrName, 1},
		{"word [1]; point =p (1,0); tell p; quotients (7/3,0); order p", []string{"1", "1", "2", "3"}, 4, api.ErrKind, 1},
		{"word [1]; round =p (1,0) (0,0)", []string{"1"}, 1, api.ErrEmpty, 0},
		{"round =p (1,0) (1,0); draw p; draw p; meet p p; draw p", []string{"1", "1"}, 3, api.ErrNone, 1},
		{"point =p (1,0); word [1]; point =p (2,0); word [2]", []string{"1"}, 2, api.ErrName, 1},
		{"mirrors =p; tell p; then =q; tell q", []string{"map 1 0 0 1"}, 4, api.OK, 2},
	} {
		s := shop.New()
		l, n, e := s.Run(sceneOf(t, x.scene)...)
		if !slices.Equal(l, x.lines) || n != x.done || e != x.e || s.Len() != x.names {
			t.Errorf("%s: %q, %d, %v, %d things", x.scene, l, n, e, s.Len())
		}
	}
	s := shop.New()
	if l, n, e := s.Run(stmt("word", "", word(1)), api.Stmt{}, stmt("word", "", word(1))); !slices.Equal(l, []string{"1"}) || n != 1 || e != api.ErrArg {
		t.Error(l, n, e)
	}
}

// Run is Do, one behind the other; and it goes on where the last one ended.
func TestRunIsDo(t *testing.T) { // P31.1, P31.2
	scene := append(sceneOf(t, stock), sceneOf(t, "draw n; draw f; meet u l; image =z m n; tell z; draw z; pack f #2")...)
	one := shop.New()
	var lines []string
	for _, x := range scene {
		l, e := one.Do(x)
		if e != api.OK {
			t.Fatal(lineOf(x), e)
		}
		if x.Name != "" && l != nil {
			t.Errorf("%s: %q", lineOf(x), l)
		}
		lines = append(lines, l...)
	}
	want := stateOf(t, one)
	for cut := range len(scene) + 1 {
		s := shop.New()
		first, n, e := s.Run(scene[:cut]...)
		second, m, f := s.Run(scene[cut:]...)
		if !slices.Equal(append(first, second...), lines) || n != cut || m != len(scene)-cut || e != api.OK || f != api.OK {
			t.Fatal(cut, n, m, e, f)
		}
		wantState(t, "cut", s, want)
	}
}

// More statements than a list may have: no promise forbids them.
func TestRunMany(t *testing.T) { // P31.2
	scene := slices.Repeat(sceneOf(t, "word [1]"), 3*api.MaxList)
	l, n, e := shop.New().Run(scene...)
	if len(l) != len(scene) || n != len(scene) || e != api.OK {
		t.Error(len(l), n, e)
	}
}

// All: names and kinds in order, left early, gone over again, and while things are
// made.
func TestAll(t *testing.T) { // P31.3
	s := shopOf(t, "point =z (1,0); map =y (1,0) (0,0) (0,0) (1,0); circle =x (1,0) (0,1) (-1,0); disk =w (0,0) (1,0); knife =v (1/2,0); net =u #1 #1 (1,0) (-1,0) (0,0) (1,0) (0,1); mirrors =t; point =a (0,0)")
	names := []string{"z", "y", "x", "w", "v", "u", "t", "a"}
	kinds := []api.ThingKind{api.ThingPoint, api.ThingMap, api.ThingCircle, api.ThingDisk, api.ThingFour, api.ThingNet, api.ThingMirrors, api.ThingPoint}
	all := s.All()
	for most := range len(names) + 2 {
		var l []string
		for name, kind := range all {
			if len(l) == most {
				break
			}
			if kind != kinds[len(l)] {
				t.Error(name, kind)
			}
			l = append(l, name)
		}
		if !slices.Equal(l, names[:min(most, len(names))]) {
			t.Errorf("%d: %q", most, l)
		}
	}
	if s.Len() != len(names) {
		t.Error(s.Len())
	}
	// While it goes on more are made: it tells those that were there when it began,
	// not when it was asked for.
	run(t, s, "point =b-0 (1,0)")
	for range 3 {
		var want, l []string
		for name := range s.All() {
			want = append(want, name)
		}
		for name := range all {
			run(t, s, "point ="+nameOf(s.Len())+" (1,0)")
			for range all {
				break
			}
			l = append(l, name)
		}
		if !slices.Equal(l, want) || s.Len() != 2*len(want) {
			t.Fatalf("%q, not %q", l, want)
		}
	}
}

// Thing and Text of names that do not stand.
func TestNoThing(t *testing.T) { // P31.3
	s := shopOf(t, stock)
	for _, name := range []string{"", "z", "Z", "U", "u ", "nobody", "point", "zero "} {
		if x, e := s.Thing(name); !reflect.DeepEqual(x, api.Thing{}) || e != api.ErrName {
			t.Errorf("%q: %v, %v", name, x, e)
		}
		if l, e := s.Text(name); l != nil || e != api.ErrName {
			t.Errorf("%q: %q, %v", name, l, e)
		}
	}
}

// Thing: what its kind names, all else zero.
func TestThing(t *testing.T) { // P31.3
	s := shopOf(t, stock)
	g := func(re, im int64) api.Gauss { return api.Gauss{Re: plain(re), Im: plain(im)} }
	at := func(re, im int64) api.Point { return api.Point{Z: g(re, im)} }
	o := api.Disk{Bend: plain(-1), Mid: g(0, 0), Co: plain(1)}
	a := api.Disk{Bend: plain(2), Mid: g(1, 0), Co: plain(0)}
	b := api.Disk{Bend: plain(2), Mid: g(-1, 0), Co: plain(0)}
	c := api.Disk{Bend: plain(3), Mid: g(0, 2), Co: plain(1)}
	for name, want := range map[string]api.Thing{
		"two": {Kind: 1, Point: at(2, 0)}, "inf": {Kind: 1, Point: api.Point{Inf: true}},
		"m": {Kind: 2, Map: api.Mob{A: g(2, 0), B: g(1, 0), C: g(0, 0), D: g(1, 0)}}, "t": {Kind: 2, Map: api.Mob{A: g(1, 0), B: g(0, 1), C: g(0, 0), D: g(1, 0), Turns: true}},
		"v": {Kind: 3, Circle: api.Circle{A: plain(1), B: g(-2, 0), C: plain(3)}}, "o": {Kind: 4, Disk: o}, "f": {Kind: 5, Four: [4]api.Disk{o, a, b, c}},
		"n": {Kind: 6, Net: api.NetSides{A: []api.Gauss{g(1, 0), g(1, 0)}, B: []api.Gauss{g(-1, 0), g(-1, 0)}, Row: []api.Point{at(0, 0), at(1, 0), at(2, 0)}, Column: []api.Point{at(0, 0), at(0, 1), at(0, 2)}}},
		"g": {Kind: 7}, "e": {Kind: 7},
	} {
		if x, e := s.Thing(name); !reflect.DeepEqual(x, want) || e != api.OK {
			t.Errorf("%s: %v, %v", name, x, e)
		}
	}
}

// Copy: both go on apart, whichever is made first.
func TestCopy(t *testing.T) { // P31.4
	s := shopOf(t, stock+"; draw u; draw n")
	old := stateOf(t, s)
	c := s.Copy()
	wantState(t, "copy", c, old)
	run(t, s, "point =z (1,0); draw v; point =y2 (5,0)")
	wantState(t, "copy", c, old)
	run(t, c, "round =z (2,0) (1,0); draw z; draw f")
	mine, other := stateOf(t, s), stateOf(t, c)
	wantText(t, s, "z", "1")
	wantText(t, c, "z", "1 -2 3")
	wantError(t, c, "tell y2", api.ErrName)
	if len(mine.picture) != len(old.picture)+1 || len(other.picture) != len(old.picture)+5 || mine.size != old.size+2 || other.size != old.size+1 {
		t.Error(mine.size, other.size)
	}
	// Copies of one shop, and of a copy, each with another thing and another arc.
	for range 3 {
		list := []*shop.Shop{s, c, s.Copy(), s.Copy(), c.Copy()}
		list = append(list, list[2].Copy())
		states := make([]state, len(list))
		for k, x := range list {
			run(t, x, "point ="+nameOf(x.Len()*10+k)+" (1,0); draw "+[]string{"u", "v", "x"}[k%3])
			states[k] = stateOf(t, x)
		}
		for k, x := range list {
			wantState(t, "apart", x, states[k])
		}
	}
}
