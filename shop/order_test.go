package shop_test

import (
	"slices"
	"testing"

	"tracery/api"
	"tracery/shop"
)

// What script.Check refuses: ahead of all but ErrNil.
func TestStatementsThatMayNotBe(t *testing.T) { // P31.1
	s := shopOf(t, stock)
	half := api.Frac{Num: plain(2).Num, Den: plain(4).Num}
	for _, x := range []api.Stmt{
		{}, stmt("", "z"), stmt("Point", "z", inf()), stmt("point", "Z", inf()), stmt("point", "0", inf()), stmt("tell-", "", named("u")), stmt("tell", "", named("U")), stmt("tell", "", named("")), stmt("tell", "", api.Arg{}),
		stmt("point", "z", along(half)), stmt("point", "z", along(api.Frac{})), stmt("fly", "u", along(half)), stmt("tell", "u", named("nobody"), along(half)), stmt("over", "z", named("q"), api.Arg{Kind: 6}),
		stmt("point", "z", api.Arg{Kind: api.ArgInf, Count: 1}), stmt("pack", "", named("f"), count(-1)), stmt("pack", "", named("f"), count(1<<31)), stmt("word", "", word(0)), stmt("word", "", word(4097)), stmt("word", "", word(slices.Repeat([]int{1}, 4097)...)),
		stmt("word", "", slices.Repeat([]api.Arg{word(1)}, 65)...), stmt("mirrors", "u", slices.Repeat([]api.Arg{named("u")}, 66)...), stmt("tell", "", api.Arg{Kind: api.ArgName, Name: "q", Word: []int{1}}),
	} {
		wantDo(t, s, x, nil, api.ErrArg)
		if l, n, e := s.Run(x, stmt("tell", "", named("u"))); l != nil || n != 0 || e != api.ErrArg {
			t.Error(l, n, e)
		}
		if l, e := (*shop.Shop)(nil).Do(x); l != nil || e != api.ErrNil {
			t.Error(l, e)
		}
	}
}

// Of two or more that are wrong the first one by the chapter's order.
func TestOrderOfErrors(t *testing.T) { // P31.1
	s := shopOf(t, stock)
	for line, e := range map[string]api.Errno{
		// ErrVerb ahead of ErrName
		"fly =u nobody": api.ErrVerb, "fly nobody": api.ErrVerb, "tell nobody nobody": api.ErrVerb, "tell =u nobody": api.ErrVerb, "tell =u u": api.ErrVerb, "point nobody": api.ErrVerb, "point =u": api.ErrVerb, "point =u #1": api.ErrVerb, "point =u nobody nobody": api.ErrVerb,
		"round =u (0,0) (1,1)": api.ErrVerb, "mix =z nobody u (1,0) (0,1)": api.ErrVerb, "mirrors =u nobody #2": api.ErrVerb, "mirrors =z u #1 nobody": api.ErrVerb, "mirrors =z nobody #1 u #2": api.ErrVerb, "net =u #1 #1 (1,0) (1,0) nobody one": api.ErrVerb, "on nobody #1": api.ErrVerb, "grow nobody #1": api.ErrVerb, "word nobody": api.ErrVerb,
		// ErrVerb ahead of ErrKind
		"tell q q": api.ErrVerb, "over =z q (1,0)": api.ErrVerb, "mirrors =z q #2": api.ErrVerb, "image =z u (1,0)": api.ErrVerb, "pack q (1,0)": api.ErrVerb,
		// ErrName ahead of ErrKind: of the statement's name, and of an argument behind
		"over =u q": api.ErrName, "on q nobody": api.ErrName, "lies q nobody": api.ErrName, "lies nobody q": api.ErrName, "image =z q nobody": api.ErrName, "image =z m nobody": api.ErrName, "image =q m m": api.ErrName, "mirrors =z q #1 nobody #1": api.ErrName, "then =z u nobody": api.ErrName, "four =z q q q nobody": api.ErrName, "net =z #1 #1 (1,0) (-1,0) u one nobody": api.ErrName,
		// ErrName ahead of what a layer refuses
		"round =u (0,0) (0,0)": api.ErrName, "home =u inf": api.ErrName, "knife =k (5,0)": api.ErrName, "circle =z zero zero nobody": api.ErrName, "four =z a a a nobody": api.ErrName, "far #3 nobody i": api.ErrName, "member =z nobody #2147483647": api.ErrName, "grow #4097 nobody": api.ErrName,
		// the statement's own name among its arguments
		"point =z z": api.ErrName, "point =q q": api.ErrName, "back =u u": api.ErrName, "then =z m z": api.ErrName, "circle =z one z i": api.ErrName, "image =z z z": api.ErrName,
		// ErrKind ahead of what a layer refuses
		"mix =z u q (0,0) (0,0)": api.ErrKind, "mix =z q u (0,0) (0,0)": api.ErrKind, "four =z a a a u": api.ErrKind, "far #3 u inf": api.ErrKind, "far #1 inf m": api.ErrKind, "member =z u #2147483647": api.ErrKind, "grow #4097 u": api.ErrKind, "flip =z u (0,0) zero": api.ErrKind, "flip =z n (0,0) m": api.ErrKind, "image =z u m": api.ErrKind, "image =z m m": api.ErrKind, "image =z m g": api.ErrKind, "image =z m e": api.ErrKind, "image =z u a": api.ErrKind, "bring =z g u #4097": api.ErrKind, "bring =z u zero #4097": api.ErrKind, "net =z #1 #1 (0,0) (0,0) zero zero u": api.ErrKind, "circle =z zero zero u": api.ErrKind,
		// of far its picture ahead of infinity, and of points that are none of it
		"far #3 (0,1) (inf)": api.ErrArg, "far #0 inf inf": api.ErrArg, "far #2147483647 (0,-1) (inf)": api.ErrArg, "far #1 (0,1) (inf)": api.ErrOut, "far #1 (0,-1) inf": api.ErrOut, "far #2 inf (2,0)": api.ErrOut,
	} {
		wantError(t, s, line, e)
	}
}

// A name that stands twice in one statement is a name like others.
func TestNamesTwice(t *testing.T) { // P31.1
	s := shopOf(t, stock)
	wantLine(t, s, "lies u u", "same")
	wantLine(t, s, "then =z m m m m")
	wantText(t, s, "z", "map 16 15 0 1")
	wantLine(t, s, "ratio zero one one zero", "inf")
	wantError(t, s, "four =z2 a a a a", api.ErrTouch)
	wantError(t, s, "lies nobody nobody", api.ErrName)
	wantLine(t, s, "mirrors =z2 u #1 u #1")
}

// Where a shop is full: ErrLong behind ErrKind, ahead of what the layers refuse.
func TestFullShop(t *testing.T) { // P31.1
	s := shopOf(t, stock)
	for k := s.Len(); k < api.MaxThings-1; k++ {
		run(t, s, "point ="+nameOf(k)+" (1,0)")
	}
	before := s.Copy()
	for _, line := range []string{"disk =z (0,0) (0,0)", "round =z (0,0) (0,0)", "home =z inf"} {
		if _, e := s.Do(read(t, line)); e == api.OK || e == api.ErrLong {
			t.Error(line, e) // one more would go
		}
	}
	run(t, s, "then =last m m")
	if s.Len() != api.MaxThings {
		t.Fatal(s.Len())
	}
	old := stateOf(t, s)
	for line, want := range map[string]api.Errno{
		"point =z (1,0)": api.ErrLong, "then =z": api.ErrLong, "mirrors =z": api.ErrLong, "disk =z (0,0) (0,0)": api.ErrLong, "round =z (0,0) (-1,0)": api.ErrLong, "home =z inf": api.ErrLong, "four =z a a a a": api.ErrLong, "net =z #0 #0 zero": api.ErrLong, "knife =z (2,0)": api.ErrLong, "member =z f #2147483647": api.ErrLong, "image =z w a": api.ErrLong,
		"point =z u": api.ErrKind, "image =z m m": api.ErrKind, "image =z m g": api.ErrKind, "over =z m": api.ErrKind, "point =z nobody": api.ErrName, "point =last (1,0)": api.ErrName, "disk =u (0,0) (0,0)": api.ErrName, "point =z": api.ErrVerb, "fly =z": api.ErrVerb, "tell =z u": api.ErrVerb, "mirrors =z u #2": api.ErrVerb,
		"meet u u": api.ErrNone, "far #3 i i": api.ErrArg,
	} {
		if l, e := s.Do(read(t, line)); l != nil || e != want {
			t.Errorf("%s: %q, %v", line, l, e)
		}
	}
	if l, e := s.Do(stmt("point", "Z", inf())); l != nil || e != api.ErrArg {
		t.Error(l, e)
	}
	wantState(t, "full", s, old)
	if l := run(t, s, "tell last; draw u; lies u v; draw f"); !slices.Equal(l, []string{"map 4 3 0 1", "1", "touching", "4"}) || len(s.Picture()) != 5 || s.Len() != api.MaxThings {
		t.Error(l)
	}
	// A copy is as full; one taken ahead takes one more.
	if _, e := s.Copy().Do(read(t, "point =z (1,0)")); e != api.ErrLong {
		t.Error(e)
	}
	run(t, before, "point =z (1,0)")
	if _, e := before.Do(read(t, "point =z2 (1,0)")); e != api.ErrLong || before.Len() != api.MaxThings {
		t.Error(e)
	}
	if x, e := s.Thing("z"); e != api.ErrName || x.Kind != 0 {
		t.Error(x, e)
	}
}

// As many things as may be, with one that is refused between each two.
func TestManyThings(t *testing.T) { // P31.1, P31.2, P31.3
	var scene []api.Stmt
	var names []string
	for k := range api.MaxThings {
		names = append(names, nameOf(k))
		scene = append(scene, read(t, "point ="+nameOf(k)+" (1,0)"))
	}
	s := shop.New()
	for k, x := range scene {
		if _, e := s.Do(x); e != api.OK {
			t.Fatal(k, e)
		}
		if _, e := s.Do(x); e != api.ErrName {
			t.Fatal(k, e)
		}
		if _, e := s.Do(read(t, "disk =refused (0,0) (0,0)")); k < api.MaxThings-1 && e != api.ErrZero {
			t.Fatal(k, e)
		}
	}
	var told []string
	for name, kind := range s.All() {
		told = append(told, name)
		if kind != api.ThingPoint {
			t.Error(name, kind)
		}
	}
	if !slices.Equal(told, names) || s.Len() != api.MaxThings {
		t.Error(len(told))
	}
	if l, n, e := shop.New().Run(append(scene, read(t, "tell z-0"), read(t, "point =more (1,0)"), read(t, "tell z-0"))...); !slices.Equal(l, []string{"1"}) || n != api.MaxThings+1 || e != api.ErrLong {
		t.Error(l, n, e)
	}
}

// nameOf is another name for each number.
func nameOf(k int) string {
	name := []byte("z-")
	for ; ; k /= 10 {
		name = append(name, byte('0'+k%10))
		if k < 10 {
			return string(name)
		}
	}
}
