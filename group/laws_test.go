package group_test

import (
	"math/rand"
	"slices"
	"testing"

	"tracery/api"
	"tracery/group"
	"tracery/words"
)

// larger are groups that are grown further than all their words can be gone
// over.
func larger(t *testing.T) map[string]*group.Group {
	return map[string]*group.Group{
		"modular":     grown(t, 11, swap(), shift()),
		"Picard":      grown(t, 5, swap(), shift(), slide(in(0, 1))),
		"with a turn": grown(t, 5, quarter(), shift(), swap(), bar()),
		"a net":       grown(t, 20, shift(), slide(in(0, 1))),
		"free":        grown(t, 6, slide(in(2, 0)), charted(1, 0, 2, 1)),
		"an eighth":   grown(t, 5, eighth(), shift()),
		"all of 48":   grown(t, 9, quarter(), charted(1, 1, -1, 1), bar()),
	}
}

// P17.7: the elements are unlike, stand in their words' order, and each one's
// word makes it; a first word's beginnings are first words.
func TestElementsAndTheirWords(t *testing.T) {
	for name, g := range larger(t) {
		met := map[api.Mob]int{}
		var last []int
		for i, m := range g.All() {
			if j, ok := met[m.Map]; ok {
				t.Fatalf("%s: %d and %d are the same", name, j, i)
			}
			met[m.Map] = i
			if made, e := g.Of(m.Word...); made != m.Map || e != api.OK {
				t.Fatalf("%s: the word of %d makes another map", name, i)
			}
			if c, _ := words.Cmp(last, m.Word); i > 0 && c != -1 {
				t.Fatalf("%s: %v stands behind %v", name, m.Word, last)
			}
			last = m.Word
			if len(m.Word) == 0 {
				continue
			}
			begin := m.Word[:len(m.Word)-1]
			first, e := g.First(begin...)
			wantWord(t, name+": a beginning", first, e, begin...)
			made, _ := g.Of(begin...)
			from, _ := g.Find(made)
			to, e := g.Step(from, m.Word[len(begin)])
			wantNumber(t, name+": the last letter", to, e, i)
			if from >= i {
				t.Fatalf("%s: %d comes from %d", name, i, from)
			}
		}
	}
}

// P17.7: a Step and its inverse lead back; all Steps of those that are less
// deep are told; whole just if no Step is missing.
func TestStepsLeadBack(t *testing.T) {
	for name, g := range larger(t) {
		whole := true
		for i, m := range g.All() {
			row, _ := g.Row(i)
			for place, letter := range letters(g.Letters()) {
				to := row[place]
				if to < 0 {
					whole = false
					if len(m.Word) < g.Depth() {
						t.Fatalf("%s: %d has no Step by %d", name, i, letter)
					}
					continue
				}
				back, e := g.Step(to, -letter)
				wantNumber(t, name+": back", back, e, i)
			}
		}
		if g.Whole() != whole {
			t.Errorf("%s: whole is %v", name, g.Whole())
		}
	}
}

// P17.7: words that make the same element have one first word, and no word
// ahead of it makes the element.
func TestFirstIsOne(t *testing.T) {
	r := rand.New(rand.NewSource(177))
	for name, g := range larger(t) {
		of := map[api.Mob][]int{}
		for range 300 {
			word := oddWord(r, g.Letters(), r.Intn(g.Depth()+1))
			first, e := g.First(word...)
			m, _ := g.Of(word...)
			if e != api.OK {
				t.Fatalf("%s: First of %v is %v", name, word, e)
			}
			if w, ok := of[m]; ok && !slices.Equal(w, first) {
				t.Fatalf("%s: %v and %v", name, w, first)
			}
			of[m] = first
			if c, _ := words.Cmp(first, word); c > 0 {
				t.Fatalf("%s: %v is ahead of %v", name, word, first)
			}
			if again, _ := g.Of(first...); again != m {
				t.Fatalf("%s: the first word of %v makes another map", name, word)
			}
		}
	}
}

// P17.7: there are no other orders.
func TestOrders(t *testing.T) {
	met := map[int]bool{}
	for name, g := range larger(t) {
		for i := range g.Len() {
			n, e := g.Order(i)
			if !slices.Contains([]int{0, 1, 2, 3, 4, 6, 8, 12}, n) || e != api.OK {
				t.Fatalf("%s: the order of %d is %d, %v", name, i, n, e)
			}
			met[n] = true
		}
	}
	for _, n := range []int{0, 1, 2, 3, 4, 6, 8} {
		if !met[n] {
			t.Errorf("no element of the order %d", n)
		}
	}
}

// P17.7: the steps in which a group is grown are not to be seen.
func TestGrownInSteps(t *testing.T) {
	for _, l := range [][]chart{{swap(), shift()}, {quarter(), bar()}, {shift(), slide(in(0, 1))}, {slide(in(2, 0)), slide(in(3, 0))}} {
		want := stateOf(grown(t, 9, l...))
		for _, steps := range [][]int{{1, 2, 3, 4, 5, 6, 7, 8, 9}, {4, 9}, {8, 3, 9}, {0, 0, 1, 9, 2}} {
			g := made(t, l...)
			for _, n := range steps {
				wantError(t, "Grow", g.Grow(n), api.OK)
				g.Grow(api.MaxList + 1)
				g.Whole()
			}
			if !stateOf(g).same(want) {
				t.Errorf("in the steps %v it comes to other elements", steps)
			}
		}
	}
}

// P17.7: counts that are known otherwise: of words that are all unlike, of a
// net's points, of the sphere's turns.
func TestCounts(t *testing.T) {
	free := grown(t, 6, slide(in(2, 0)), charted(1, 0, 2, 1))
	for n := range 7 {
		if want, _ := words.Count(2, n); uint64(free.Sphere(n)) != want {
			t.Errorf("%d words of %d letters, want %d", free.Sphere(n), n, want)
		}
	}
	wantError(t, "words of 7 letters", free.Grow(7), api.ErrElems)
	net := grown(t, 44, shift(), slide(in(0, 1)))
	for n := 1; n <= 44; n++ {
		if net.Sphere(n) != 4*n {
			t.Errorf("%d points %d steps away", net.Sphere(n), n)
		}
	}
	wantError(t, "a net of 45 steps", net.Grow(45), api.ErrElems)
	if g := grown(t, 9, quarter(), charted(1, 1, -1, 1), bar()); g.Len() != 48 || !g.Whole() {
		t.Errorf("%d turns", g.Len())
	}
}
