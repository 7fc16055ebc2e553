package packing_test

import (
	"iter"
	"slices"
	"testing"

	"tracery/api"
	"tracery/packing"
)

// first answers the first ones that are told, up to so many.
func first(seq iter.Seq[api.Packed], count int) []api.Packed {
	var l []api.Packed
	if count == 0 {
		return l
	}
	for p := range seq {
		l = append(l, p)
		if len(l) == count {
			break
		}
	}
	return l
}

func TestEach(t *testing.T) { // P21.2
	quads(t, 2120, 30, func(f quad) {
		wantList(t, "Each", first(packing.Each(f.disks()), 164), api.OK, f.all(4))
	})
	for _, f := range longQuads() {
		wantList(t, "Each of long ones", first(packing.Each(f.disks()), 56), api.OK, f.all(3))
	}
}

// MaxElems says nothing of Each.
func TestEachGoesOn(t *testing.T) { // P21.2
	all := knot().all(8)
	if len(all) != 13124 {
		t.Fatal("they are to be more than MaxElems")
	}
	l := first(packing.Each(knot().disks()), 13125)
	wantList(t, "Each", l[:13124], api.OK, all)
	if !slices.Equal(l[13124].Swaps, []int{0, 1, 0, 1, 0, 1, 0, 1, 0}) {
		t.Errorf("the first row of nine swaps is %v", l[13124].Swaps)
	}
	l = first(packing.Each(strip().out().disks()), 4500)
	wantList(t, "Each, inside out", l, api.OK, strip().out().all(8)[:4500])
}

func TestEachEnds(t *testing.T) { // P21.2
	seen := tally{}
	for _, f := range growing(t) {
		all := f.all(3)
		fit := fitting(all)
		wantList(t, "Each", first(packing.Each(f.disks()), len(all)), api.OK, fit)
		seen.when("behind the four", len(fit) == 4)
		seen.when("by one swap", len(fit) > 4 && len(fit) < 8)
		seen.when("by two swaps", len(fit) >= 8 && len(fit) < 20)
		seen.when("by more swaps", len(fit) >= 20 && len(fit) < len(all))
	}
	seen.least(t, 3, "behind the four", "by one swap", "by two swaps", "by more swaps")
}

func TestEachOfWrongOnes(t *testing.T) { // P21.2
	for _, f := range wrongFours() {
		seq := packing.Each(f)
		if seq == nil {
			t.Fatal("there is to be an iterator")
		}
		for p := range seq {
			t.Fatalf("%s is told", brief(p.Disk))
		}
	}
}

func TestEachIsLeft(t *testing.T) { // P21.2
	seq, all := packing.Each(knot().disks()), knot().all(3)
	for n := range len(all) + 1 {
		wantList(t, "Each, left", first(seq, n), api.OK, all[:n])
	}
	told := 0
	seq(func(api.Packed) bool {
		told++
		return false
	})
	if told != 1 {
		t.Errorf("Each goes on for %d, though it was left at once", told)
	}
}

func TestEachTwice(t *testing.T) { // P21.2
	seq, all := packing.Each(strip().disks()), strip().all(3)
	one, stop := iter.Pull(seq)
	defer stop()
	two, end := iter.Pull(seq)
	defer end()
	var l, m []api.Packed
	for k := range all {
		p, ok := one()
		if !ok {
			t.Fatal("Each ends")
		}
		l = append(l, p)
		if k%3 == 0 {
			p, ok = two()
			if !ok {
				t.Fatal("Each ends")
			}
			m = append(m, p)
		}
	}
	wantList(t, "Each by turns", l, api.OK, all)
	wantList(t, "Each by turns, too", m, api.OK, all[:len(m)])
}

func TestEachWithinItself(t *testing.T) { // P21.2
	seq, all := packing.Each(knot().disks()), knot().all(2)
	var l []api.Packed
	for p := range seq {
		l = append(l, p)
		wantList(t, "Each within itself", first(seq, len(l)), api.OK, all[:len(l)])
		if len(l) == len(all) {
			break
		}
	}
	wantList(t, "Each about itself", l, api.OK, all)
}

// What is done to a row that was told changes none that is told later.
func TestEachTellsNewRows(t *testing.T) { // P21.2
	all, k := knot().all(4), 0
	for p := range packing.Each(knot().disks()) {
		if p.Disk != all[k].disk() || !slices.Equal(p.Swaps, all[k].swaps) {
			t.Fatalf("%d is told by %v, want %v", k, p.Swaps, all[k].swaps)
		}
		spoil(p.Swaps)
		if k++; k == len(all) {
			break
		}
	}
}
