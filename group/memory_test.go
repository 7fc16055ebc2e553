package group_test

import (
	"slices"
	"testing"

	"tracery/api"
	"tracery/group"
)

// spoil writes over a list and the spare room behind it.
func spoil(w []int) {
	for i := range w[:cap(w)] {
		w[:cap(w)][i] = 12345
	}
}

// P17.6: a copy stands where the group stands, and goes on apart.
func TestCopy(t *testing.T) {
	for _, c := range groups() {
		g := grown(t, 2, c.maps...)
		was := stateOf(g)
		d := g.Copy()
		if !stateOf(d).same(was) {
			t.Fatalf("%s: the copy stands elsewhere", c.name)
		}
		wantError(t, c.name, g.Grow(3), api.OK)
		on := stateOf(g)
		if !stateOf(d).same(was) {
			t.Fatalf("%s: the copy goes on, too", c.name)
		}
		wantError(t, c.name, d.Grow(4), api.OK)
		if !stateOf(g).same(on) {
			t.Fatalf("%s: the group goes on with its copy", c.name)
		}
		wantError(t, c.name, g.Grow(4), api.OK)
		if !stateOf(g).same(stateOf(d)) {
			t.Fatalf("%s: they come to other elements", c.name)
		}
		for i := range g.Len() {
			m, _ := g.Member(i)
			n, e := d.Find(m.Map)
			wantNumber(t, c.name, n, e, i)
		}
	}
}

// P17.6: two copies that grow into the same room do not meet there.
func TestCopiesGrowApart(t *testing.T) {
	g := grown(t, 3, swap(), shift())
	all := g.All()
	a, b := g.Copy(), g.Copy()
	wantError(t, "Grow", a.Grow(5), api.OK)
	wantError(t, "Grow", b.Grow(4), api.OK)
	wantError(t, "Grow", g.Grow(api.MaxList), api.ErrElems)
	if !stateOf(a).same(stateOf(grown(t, 5, swap(), shift()))) || !stateOf(b).same(stateOf(grown(t, 4, swap(), shift()))) {
		t.Error("the copies have met")
	}
	if !stateOf(g).same(stateOf(grown(t, 3, swap(), shift()))) {
		t.Error("the group has changed")
	}
	for i, m := range all {
		if want, _ := a.Member(i); !sameMember(m, want) {
			t.Errorf("%d is another one", i)
		}
	}
}

// P17.6: what a group is refused, its copy keeps.
func TestCopyKeepsWhatIsRefused(t *testing.T) {
	for n := 2; n < 20; n++ {
		l := slide(flat(ofInt(share(int64(n)))))
		g := grown(t, n-1, l)
		c := g.Copy()
		wantError(t, "Grow of the copy", c.Grow(n), api.OK)
		was := stateOf(c)
		wantError(t, "Grow of the group", g.Grow(n+1), api.ErrBig)
		if !stateOf(c).same(was) {
			t.Fatalf("of %d elements the copy has lost some", was.length)
		}
	}
}

// P17.1, P17.4: what is handed in stays, spare room included, and is not kept.
func TestNothingIsKept(t *testing.T) {
	l := mobs([]chart{swap(), shift(), bar(), quarter()})
	g, e := group.New(l[:2]...)
	wantError(t, "New", e, api.OK)
	if l[0] != swap().mob() || l[1] != shift().mob() || l[2] != bar().mob() || l[3] != quarter().mob() {
		t.Error("New has changed its maps")
	}
	l[0], l[1], l[2] = quarter().mob(), api.Mob{}, api.Mob{}
	wantError(t, "Grow", g.Grow(3), api.OK)
	if !stateOf(g).same(stateOf(grown(t, 3, swap(), shift()))) {
		t.Error("New has kept its list")
	}
	word := []int{1, 2, -2, -1, 2, 77, 78}
	g.Of(word[:5]...)
	g.First(word[:5]...)
	if !slices.Equal(word, []int{1, 2, -2, -1, 2, 77, 78}) {
		t.Error("a word has changed")
	}
}

// P17.2 to P17.5: what is told is new each time.
func TestAnswersAreNew(t *testing.T) {
	g := grown(t, 3, swap(), shift())
	was := stateOf(g)
	for i := range g.Len() {
		for range 2 {
			m, _ := g.Member(i)
			row, _ := g.Row(i)
			w, e := g.First(m.Word...)
			wantWord(t, "First", w, e, m.Word...)
			wantRow(t, g.Len(), row)
			spoil(row)
			spoil(w)
			spoil(m.Word)
		}
	}
	for range 2 {
		for i, m := range g.All() {
			if !sameMember(m, was.members[i]) {
				t.Fatalf("All's %d is spoilt", i)
			}
			spoil(m.Word)
		}
	}
	if !stateOf(g).same(was) {
		t.Error("the group is spoilt")
	}
	wantError(t, "Grow", g.Grow(5), api.OK)
	if !stateOf(g).same(stateOf(grown(t, 5, swap(), shift()))) {
		t.Error("what comes of it is spoilt")
	}
}

func wantRow(t *testing.T, n int, row []int) {
	t.Helper()
	for _, i := range row {
		if i < -1 || i >= n {
			t.Errorf("a row with %d", i)
		}
	}
}
