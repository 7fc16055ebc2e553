package shop_test

import (
	"math/rand"
	"reflect"
	"slices"
	"testing"

	"tracery/api"
	"tracery/script"
	"tracery/shop"
)

// sameAs holds all that a shop tells against the model's.
func sameAs(t *testing.T, s *shop.Shop, m *model) {
	t.Helper()
	x := stateOf(t, s)
	if x.size != len(m.list) || len(x.names) != len(m.list) || !slices.Equal(bitsOf(x.picture), bitsOf(m.picture)) {
		t.Fatalf("%d things, %d arcs, not %d, %d", x.size, len(x.picture), len(m.list), len(m.picture))
	}
	for k, h := range m.list {
		if x.names[k] != h.name || !reflect.DeepEqual(x.things[k], h.thing()) || !slices.Equal(x.texts[k], h.text()) {
			t.Fatalf("%s: %.300v, not %.300v", h.name, x.things[k], h.thing())
		}
	}
}

// Statements of all kinds, held against the chapter's words.
func TestByTheWords(t *testing.T) { // P31.1, P31.2, P31.3
	r := rand.New(rand.NewSource(311))
	counts := tally{}
	met := map[string]int{}
	for range 100 {
		s, m := shop.New(), &model{}
		scene := sceneOf(t, stock)
		for range 60 {
			scene = append(scene, api.Stmt{})
		}
		for k, x := range scene {
			if x.Verb == "" {
				x = m.anyStmt(r, nameOf(k))
			}
			want, e := m.do(x)
			got, f := s.Do(x)
			if !slices.Equal(got, want) || e != f {
				t.Fatalf("%.500s: %.300q, %v, not %.300q, %v", lineOf(x), got, f, want, e)
			}
			counts[e]++
			if e == api.OK {
				met[x.Verb]++
			}
		}
		sameAs(t, s, m)
	}
	counts.want(t, 1000, api.OK)
	counts.want(t, 5, api.ErrArg, api.ErrZero, api.ErrNone, api.ErrTwins, api.ErrSame, api.ErrEmpty, api.ErrMany, api.ErrTouch, api.ErrPacked, api.ErrOut, api.ErrNet, api.ErrVerb, api.ErrName, api.ErrKind, api.ErrRoot)
	counts.want(t, 1, api.ErrFlat)
	for v := range shop.Verbs() {
		if met[v] < 20 {
			t.Errorf("%s went well only %d times", v, met[v])
		}
	}
}

// anyScene is a scene that goes well, with what it draws and asks.
func anyScene(t *testing.T, r *rand.Rand, most int) []api.Stmt {
	t.Helper()
	m := &model{}
	var scene []api.Stmt
	stock := sceneOf(t, stock)
	for k := 0; len(scene) < most && k < 5*most; k++ {
		x := m.anyStmt(r, nameOf(k))
		if k < len(stock) {
			x = stock[k]
		}
		if _, e := m.do(x); e == api.OK {
			scene = append(scene, x)
		}
	}
	return scene
}

// One scene makes one picture, bit by bit, and one row of lines, whatever was made
// elsewhere.
func TestOneScene(t *testing.T) { // P31.5
	r := rand.New(rand.NewSource(312))
	other := shop.New()
	for range 30 {
		scene := anyScene(t, r, 70)
		first := shop.New()
		lines, n, e := first.Run(scene...)
		if n != len(scene) || e != api.OK {
			t.Fatal(n, e)
		}
		other.Run(anyScene(t, r, 40)...)
		again, n, e := shop.New().Run(scene...)
		if n != len(scene) || e != api.OK || !slices.Equal(again, lines) {
			t.Fatal(n, e)
		}
		second := shop.New()
		for _, x := range scene { // with other things done between
			if _, e := second.Do(x); e != api.OK {
				t.Fatal(e)
			}
			second.Do(read(t, "fly"))
			second.Do(read(t, "disk =no (0,0) (0,0)"))
			second.Copy().Do(read(t, "point =no (0,0)"))
			other.Do(x)
		}
		wantState(t, "the same scene", second, stateOf(t, first))
	}
}

// A scene that goes well is in order.
func TestScenesAreInOrder(t *testing.T) { // P31.5
	r := rand.New(rand.NewSource(313))
	for range 50 {
		scene := anyScene(t, r, 70)
		if n, e := script.Order(scene...); n != len(scene) || e != api.OK {
			t.Fatal(n, e)
		}
		// Where two are exchanged, it goes well just if it is in order, or else the
		// first one out of order is the first one refused by its name.
		k := r.Intn(len(scene) - 1)
		scene[k], scene[k+1] = scene[k+1], scene[k]
		n, e := script.Order(scene...)
		_, done, f := shop.New().Run(scene...)
		if e != f || n != done {
			t.Fatalf("%d, %v, not %d, %v", done, f, n, e)
		}
	}
}

// What a statement makes hangs on those that it needs alone.
func TestNeedsAlone(t *testing.T) { // P31.5
	r := rand.New(rand.NewSource(314))
	asked := 0
	for range 30 {
		scene := anyScene(t, r, 80)
		s := shop.New()
		s.Run(scene...)
		for _, name := range script.Names(scene...) {
			places, e := script.Needs(scene, name)
			if e != api.OK {
				t.Fatal(e)
			}
			var alone []api.Stmt
			for _, k := range places {
				alone = append(alone, scene[k])
			}
			o := shop.New()
			if _, n, e := o.Run(alone...); n != len(alone) || e != api.OK || o.Len() != len(alone) {
				t.Fatal(name, n, e)
			}
			x, _ := s.Thing(name)
			y, _ := o.Thing(name)
			v, _ := s.Text(name)
			w, _ := o.Text(name)
			if !reflect.DeepEqual(x, y) || !slices.Equal(v, w) {
				t.Fatalf("%s: %v, not %v", name, y, x)
			}
			p, q := s.Copy(), o.Copy()
			before := len(p.Picture())
			a, e := p.Do(stmt("draw", "", named(name)))
			b, f := q.Do(stmt("draw", "", named(name)))
			if e != f || !slices.Equal(a, b) || !slices.Equal(bitsOf(p.Picture()[before:]), bitsOf(q.Picture())) {
				t.Fatal(name, e, f)
			}
			asked++
		}
	}
	if asked < 1000 {
		t.Error(asked)
	}
}

// What a text says is done as the scene was.
func TestScenesAsTexts(t *testing.T) { // P31.5
	r := rand.New(rand.NewSource(315))
	for range 20 {
		scene := anyScene(t, r, 60)
		text, _, e := script.Text(scene...)
		if e != api.OK {
			t.Fatal(e)
		}
		read, _, e := script.Parse(text)
		if e != api.OK {
			t.Fatal(e)
		}
		s, o := shop.New(), shop.New()
		lines, _, _ := s.Run(scene...)
		again, n, e := o.Run(read...)
		if n != len(scene) || e != api.OK || !slices.Equal(lines, again) {
			t.Fatal(n, e)
		}
		wantState(t, "read", o, stateOf(t, s))
	}
}
