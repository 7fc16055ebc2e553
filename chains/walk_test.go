package chains_test

import (
	"iter"
	"testing"

	"tracery/api"
	"tracery/chains"
)

// told is a number and its disk.
type told struct {
	n    int
	disk api.Disk
}

// first answers the first ones that are told, up to so many.
func first(seq iter.Seq2[int, api.Disk], count int) []told {
	var l []told
	if count == 0 {
		return l
	}
	for n, d := range seq {
		l = append(l, told{n, d})
		if len(l) == count {
			break
		}
	}
	return l
}

// walked answers what P22.2 says, up to so many.
func (f quad) walked(from, count int) []told {
	var l []told
	for n := from; n <= api.MaxChain && len(l) < count; n++ {
		x := f.at(n)
		if !x.fits() {
			break
		}
		l = append(l, told{n, x.disk()})
	}
	return l
}

func wantTold(t *testing.T, what string, got, wanted []told) {
	t.Helper()
	if len(got) != len(wanted) {
		t.Fatalf("%s tells %d, want %d", what, len(got), len(wanted))
	}
	for k, x := range got {
		if x != wanted[k] {
			t.Fatalf("%s tells %d %s, want %d %s", what, x.n, brief(x.disk), wanted[k].n, brief(wanted[k].disk))
		}
	}
}

func walk(t *testing.T, f quad, from int) iter.Seq2[int, api.Disk] {
	t.Helper()
	seq, e := chains.Walk(f.disks(), from)
	if e != api.OK || seq == nil {
		t.Fatalf("Walk is refused: %v", e)
	}
	return seq
}

func TestWalk(t *testing.T) { // P22.2
	for _, f := range rows(50) {
		for _, from := range numbers() {
			wantTold(t, "Walk", first(walk(t, f, from), 9), f.walked(from, 9))
		}
	}
}

func TestWalkExamples(t *testing.T) { // P22.2
	l := first(walk(t, strip(), -1), 6)
	for k, x := range []ball{balled(1, -2, 1, 4), balled(1, 0, 1, 0), balled(1, 2, 1, 4), balled(1, 4, 1, 16), balled(1, 6, 1, 36), balled(1, 8, 1, 64)} {
		want(t, "Walk of the strip", l[k], api.OK, told{k - 1, x.disk()})
	}
}

// From the least number on it goes up to MaxChain, that included.
func TestWalkToTheEnd(t *testing.T) { // P22.2
	n := -api.MaxChain
	seq, e := chains.Walk(chains.Strip(), n)
	if e != api.OK {
		t.Fatal(e)
	}
	for k, d := range seq {
		if k != n {
			t.Fatalf("%d is told for %d", k, n)
		}
		if k%65536 == 0 {
			want(t, "Walk", d, api.OK, strip().at(k).disk())
		}
		n++
	}
	if n != api.MaxChain+1 {
		t.Errorf("Walk ends ahead of %d", n)
	}
	for _, f := range rows(40) {
		for back := range 4 {
			from := api.MaxChain - back
			l := first(walk(t, f, from), 99)
			wantTold(t, "Walk", l, f.walked(from, 99))
			if len(l) != back+1 && f.at(api.MaxChain).fits() {
				t.Fatalf("%d are told from %d on", len(l), from)
			}
		}
	}
}

func TestWalkEnds(t *testing.T) { // P22.2
	seen := tally{}
	for _, f := range gaps() {
		for from := -20; from <= 20; from += 2 {
			l := f.walked(from, 30)
			wantTold(t, "Walk", first(walk(t, f, from), 30), l)
			seen.when("tells nothing", len(l) == 0)
			seen.when("tells some", len(l) > 0 && len(l) < 30)
			seen.when("goes on", len(l) == 30)
			seen.when("others fit further on", len(l) < 20 && f.at(from+len(l)+1).fits())
		}
	}
	seen.least(t, 5, "tells nothing", "tells some", "goes on", "others fit further on")
	f := holed(most())
	for from, count := range map[int]int{-3: 1, -2: 0, -1: 3, 0: 2, 1: 1, 2: 0, 3: 1} {
		if l := first(walk(t, f, from), 99); len(l) != count {
			t.Errorf("from %d on %d are told, want %d", from, len(l), count)
		}
	}
}

func TestWalkIsLeft(t *testing.T) { // P22.2
	f := knot()
	seq := walk(t, f, -3)
	for count := range 9 {
		wantTold(t, "Walk, left", first(seq, count), f.walked(-3, count))
	}
	calls := 0
	seq(func(int, api.Disk) bool {
		calls++
		return false
	})
	if calls != 1 {
		t.Errorf("Walk goes on for %d, though it was left at once", calls)
	}
	wantTold(t, "Walk once more", first(seq, 30), f.walked(-3, 30))
}

func TestWalkTwice(t *testing.T) { // P22.2
	f := knife(rat(2, 7))
	seq, all := walk(t, f, -5), f.walked(-5, 30)
	one, stop := iter.Pull2(seq)
	defer stop()
	two, end := iter.Pull2(seq)
	defer end()
	var l, m []told
	for k := range all {
		n, d, ok := one()
		if !ok {
			t.Fatal("Walk ends")
		}
		l = append(l, told{n, d})
		if k%3 == 0 {
			n, d, ok = two()
			if !ok {
				t.Fatal("Walk ends")
			}
			m = append(m, told{n, d})
		}
	}
	wantTold(t, "Walk by turns", l, all)
	wantTold(t, "Walk by turns, too", m, all[:len(m)])
}

func TestWalkWithinItself(t *testing.T) { // P22.2
	f := strip().on(2)
	seq, all := walk(t, f, -2), f.walked(-2, 12)
	var l []told
	for n, d := range seq {
		l = append(l, told{n, d})
		wantTold(t, "Walk within itself", first(seq, len(l)), all[:len(l)])
		if len(l) == len(all) {
			break
		}
	}
	wantTold(t, "Walk about itself", l, all)
}

func TestWalkRefuses(t *testing.T) { // P22.2
	refused := func(what string, row [4]api.Disk, from int, wanted api.Errno) {
		t.Helper()
		seq, e := chains.Walk(row, from)
		if seq != nil || e != wanted {
			t.Fatalf("Walk %s is %v, want none, %v", what, e, wanted)
		}
	}
	for _, row := range wrongRows() {
		for _, from := range []int{0, 1, -5, -api.MaxChain, -api.MaxChain - 1} {
			refused("of a wrong disk", row, from, api.ErrArg)
		}
	}
	apart := loose()
	for _, from := range wrongNumbers() {
		for _, f := range append(apart[:12:12], strip(), knot(), holed(most())) {
			refused("from a wrong number", f.disks(), from, api.ErrArg)
		}
	}
	for _, f := range apart {
		for _, from := range []int{0, 1, -5, api.MaxChain, -api.MaxChain} {
			refused("of four that do not touch", f.disks(), from, api.ErrTouch)
		}
	}
}
