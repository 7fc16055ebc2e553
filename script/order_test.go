package script_test

import (
	"fmt"
	"math/rand"
	"slices"
	"strings"
	"testing"

	"tracery/api"
	"tracery/script"
)

func wantOrder(t *testing.T, scene []api.Stmt) api.Errno {
	t.Helper()
	wantN, wantE := orderOf(scene)
	if n, e := script.Order(scene...); n != wantN || e != wantE {
		t.Fatalf("Order(%.100v): %d, %v, not %d, %v", scene, n, e, wantN, wantE)
	}
	return wantE
}

func wantNeeds(t *testing.T, scene []api.Stmt, name string) api.Errno {
	t.Helper()
	want, wantE := needsOf(scene, name)
	l, e := script.Needs(scene, name)
	if !slices.Equal(l, want) || e != wantE || e != api.OK && l != nil {
		t.Fatalf("Needs(%.100v, %q): %v, %v, not %v, %v", scene, name, l, e, want, wantE)
	}
	return wantE
}

// sceneOf reads lines parted by ; as a scene.
func sceneOf(t *testing.T, text string) []api.Stmt {
	t.Helper()
	var l []api.Stmt
	if text == "" {
		return l
	}
	for _, line := range strings.Split(text, "; ") {
		s, e := readOf(line)
		if e != api.OK {
			t.Fatal(line)
		}
		l = append(l, s)
	}
	return l
}

func TestOrderExamples(t *testing.T) { // P30.4
	for text, want := range map[string]struct {
		n int
		e api.Errno
	}{
		"":                      {0, api.OK},
		"draw":                  {1, api.OK},
		"draw; draw; draw":      {3, api.OK}, // of none all have one name: none
		"point =a":              {1, api.OK},
		"point =a; draw a":      {2, api.OK},
		"point =a; draw a a":    {2, api.OK},
		"point =a; point =b a":  {2, api.OK},
		"point =a; point =a":    {1, api.ErrName},
		"draw a":                {0, api.ErrName},
		"draw a; point =a":      {0, api.ErrName},
		"point =b; draw a":      {1, api.ErrName},
		"point =a a":            {0, api.ErrName}, // by its own statement
		"point =b; point =a a":  {1, api.ErrName},
		"point =b; draw b a":    {1, api.ErrName},
		"point =b; draw a b":    {1, api.ErrName},
		"point =a; point =a a":  {1, api.ErrName},
		"point =a; point =a b":  {1, api.ErrName},
		"point =a; point =b c":  {1, api.ErrName},
		"point =a b; point =b":  {0, api.ErrName},
		"point =a b; point =a":  {0, api.ErrName},
		"point =a; draw b; x c": {1, api.ErrName},
		"point =a; draw a; point =b; point =a; draw c": {3, api.ErrName},
		"point =a; draw a; point =b; draw c; point =a": {3, api.ErrName},
		"draw =draw; draw draw":                        {2, api.OK}, // a verb stands nowhere
		"draw draw":                                    {0, api.ErrName},
		"point =a; draw #1 (1,0) (inf) [1] a":          {2, api.OK},
		"point =a; draw #1 (1,0) (inf) [1] a b":        {1, api.ErrName},
		"point =inf; draw inf (inf)":                   {2, api.OK},
		"draw (inf)":                                   {1, api.OK},
	} {
		scene := sceneOf(t, text)
		if n, e := script.Order(scene...); n != want.n || e != want.e {
			t.Errorf("%q: %d, %v", text, n, e)
		}
		wantOrder(t, scene)
	}
}

// ErrLong is ahead of ErrArg, that ahead of ErrName, wherever they stand.
func TestOrderOfErrors(t *testing.T) { // P30.4
	counts := tally{}
	for _, scene := range bounds() {
		counts[wantOrder(t, scene)]++
		if len(scene) > 5000 {
			t.Fatal(len(scene))
		}
		wantNeeds(t, scene, "a")
		wantNeeds(t, scene, "")
		if len(scene) > 0 {
			for _, at := range []int{0, len(scene) - 1} { // and out of order there
				other := slices.Clone(scene)
				if mayOf(other[at]) {
					other[at] = stmt("draw", "", named("a"))
				}
				counts[wantOrder(t, other)]++
				counts[wantNeeds(t, other, "a")]++
			}
		}
	}
	counts.want(t, 3, api.OK, api.ErrArg, api.ErrLong, api.ErrName)
	point, wrong := stmt("point", "a"), stmt("point", "B")
	for i, x := range []struct {
		scene []api.Stmt
		n     int
		e     api.Errno
	}{
		{[]api.Stmt{point, point, wrong}, 2, api.ErrArg},
		{[]api.Stmt{wrong, point, point}, 0, api.ErrArg},
		{[]api.Stmt{stmt("draw", "", named("b")), {}, wrong}, 1, api.ErrArg},
		{slices.Repeat([]api.Stmt{wrong}, api.MaxList), 0, api.ErrArg},
		{slices.Repeat([]api.Stmt{wrong}, api.MaxList+1), 0, api.ErrLong},
		{slices.Repeat([]api.Stmt{point}, api.MaxList), 1, api.ErrName},
		{slices.Repeat([]api.Stmt{point}, api.MaxList+1), 0, api.ErrLong},
	} {
		if n, e := script.Order(x.scene...); n != x.n || e != x.e {
			t.Errorf("%d: %d, %v", i, n, e)
		}
		if l, e := script.Needs(x.scene, "a"); l != nil || e != x.e {
			t.Errorf("%d: %v, %v", i, l, e)
		}
	}
}

func TestNames(t *testing.T) { // P30.4
	for text, want := range map[string][]string{
		"":                                  nil,
		"draw; draw a":                      nil,
		"point =a; point =b; circle =c a a": {"a", "b", "c"},
		"point =b; draw b; point =a":        {"b", "a"},
		"point =z; point =a; point =z":      {"z", "a", "z"}, // in order or not
		"draw =c c":                         {"c"},
	} {
		if l := script.Names(sceneOf(t, text)...); !slices.Equal(l, want) {
			t.Errorf("%q: %v", text, l)
		}
	}
	if l := script.Names(); len(l) != 0 {
		t.Error(l)
	}
	long := make([]api.Stmt, api.MaxList)
	var want []string
	for i := range long {
		long[i] = stmt("point", fmt.Sprint("p", i))
		want = append(want, long[i].Name)
	}
	if l := script.Names(long...); !slices.Equal(l, want) {
		t.Error(len(l))
	}
}

func TestNeedsExamples(t *testing.T) { // P30.4
	scene := sceneOf(t, "point =a; point =b; circle =c a a; draw c; line =d b (1,0) #3; mix =e c d; back =f e e e; point =g; then =h g f g; draw h")
	for name, want := range map[string][]int{
		"a": {0}, "b": {1}, "c": {0, 2}, "d": {1, 4}, "e": {0, 1, 2, 4, 5}, "f": {0, 1, 2, 4, 5, 6}, "g": {7}, "h": {0, 1, 2, 4, 5, 6, 7, 8},
	} {
		if l, e := script.Needs(scene, name); !slices.Equal(l, want) || e != api.OK {
			t.Errorf("%s: %v, %v", name, l, e)
		}
		wantNeeds(t, scene, name)
	}
	for _, name := range append(wrongNames(), "x", "aa", "draw", "point", "circle") {
		if l, e := script.Needs(scene, name); l != nil || e != api.ErrName {
			t.Errorf("%q: %v, %v", name, l, e)
		}
	}
	// Out of order behind what is asked for.
	for _, text := range []string{"point =a; draw b", "point =a; point =b; point =b", "point =a; point =a", "point =b; point =a; draw c; draw a", "point =a; point =c c"} {
		if l, e := script.Needs(sceneOf(t, text), "a"); l != nil || e != api.ErrName {
			t.Errorf("%q: %v, %v", text, l, e)
		}
	}
	for _, scene := range [][]api.Stmt{nil, {}, {stmt("draw", "")}} {
		for _, name := range []string{"", "a", "draw"} {
			if l, e := script.Needs(scene, name); l != nil || e != api.ErrName {
				t.Errorf("%v, %q: %v, %v", scene, name, l, e)
			}
		}
	}
}

// A chain of MaxList, each needing the one ahead; and one whose statements need
// the first one alone; and 64 at a time.
func TestNeedsLong(t *testing.T) { // P30.4
	name := func(i int) string { return fmt.Sprint("p", i) }
	chain, star, wide := []api.Stmt{stmt("point", "p0")}, []api.Stmt{stmt("point", "p0")}, []api.Stmt{stmt("point", "p0")}
	for i := 1; i < api.MaxList; i++ {
		chain = append(chain, stmt("then", name(i), named(name(i-1))))
		star = append(star, stmt("then", name(i), named("p0"), inf()))
		var args []api.Arg
		for k := max(0, i-64); k < i; k++ {
			args = append(args, named(name(k)))
		}
		wide = append(wide, stmt("then", name(i), args...))
	}
	for _, i := range []int{0, 1, 2, 63, 64, 65, 1000, api.MaxList - 2, api.MaxList - 1} {
		for _, scene := range [][]api.Stmt{chain, wide} {
			l, e := script.Needs(scene, name(i))
			if e != api.OK || len(l) != i+1 || !slices.IsSorted(l) || l[0] != 0 || l[i] != i {
				t.Fatal(i, len(l), e)
			}
		}
		want := []int{0, i}
		if i == 0 {
			want = []int{0}
		}
		if l, e := script.Needs(star, name(i)); !slices.Equal(l, want) || e != api.OK {
			t.Fatal(i, l, e)
		}
	}
	if n, e := script.Order(chain...); n != api.MaxList || e != api.OK {
		t.Error(n, e)
	}
	chain[9].Args[0] = named("p9")
	if n, e := script.Order(chain...); n != 9 || e != api.ErrName {
		t.Error(n, e)
	}
}

// anyScene is of few names, so that they meet; in order, if ordered.
func anyScene(r *rand.Rand, ordered bool) []api.Stmt {
	const names = "abcdefgh"
	var scene []api.Stmt
	for i := range r.Intn(9) {
		s := api.Stmt{Verb: "v"}
		if r.Intn(4) > 0 {
			s.Name = names[i : i+1]
			if !ordered && r.Intn(12) == 0 {
				k := r.Intn(len(names))
				s.Name = names[k : k+1]
			}
		}
		stand := script.Names(scene...)
		for range r.Intn(4) {
			switch {
			case !ordered && r.Intn(12) == 0:
				k := r.Intn(len(names))
				s.Args = append(s.Args, named(names[k:k+1]))
			case len(stand) > 0 && r.Intn(4) > 0:
				s.Args = append(s.Args, named(stand[r.Intn(len(stand))]))
			default:
				s.Args = append(s.Args, inf())
			}
		}
		scene = append(scene, s)
	}
	return scene
}

func TestOrderMany(t *testing.T) { // P30.4
	counts, needs := tally{}, tally{}
	r := rand.New(rand.NewSource(304))
	for k := range 20000 {
		scene := anyScene(r, k%2 == 0)
		if len(scene) > 0 && r.Intn(20) == 0 {
			scene[r.Intn(len(scene))].Verb = ""
		}
		counts[wantOrder(t, scene)]++
		for _, name := range []string{"a", "b", "c", "d", "e", "f", "g", "h", ""} {
			needs[wantNeeds(t, scene, name)]++
		}
	}
	counts.want(t, 500, api.OK, api.ErrArg, api.ErrName)
	needs.want(t, 500, api.OK, api.ErrArg, api.ErrName)
}
