package packing_test

import (
	"slices"
	"testing"

	"tracery/api"
	"tracery/packing"
)

// spoil writes over a list and the spare room behind it.
func spoil(l []int) {
	for i := range l[:cap(l)] {
		l[:cap(l)][i] = 99
	}
}

// roomy answers the list with spare room behind it, in which something stands.
func roomy[T any](l []T) []T { return slices.Concat(l, l)[:len(l)] }

// P21.4, P21.5: what is handed in stays, spare room included.
func TestNothingIsChanged(t *testing.T) {
	f, swaps := knot().disks(), []int{0, 3, 1, 2, 0}
	list, way := roomy(f[:]), roomy(swaps)
	packing.At(f, way...)
	packing.At(f, way[:2]...)
	packing.At([4]api.Disk(list), way[1:]...)
	packing.Apart(list...)
	packing.Apart(list[:3]...)
	packing.Apart(append(list[:4:4], list[1], balled(1, 0, 0, -1).disk())...)
	packing.All([4]api.Disk(list), 2)
	packing.Upto([4]api.Disk(list), 2, over(6, 1))
	packing.Has([4]api.Disk(list), 2, list[3])
	packing.Root([4]api.Disk(list))
	if !slices.Equal(list[:8], slices.Concat(f[:], f[:])) {
		t.Error("a list of disks has changed")
	}
	if !slices.Equal(way[:10], slices.Concat(swaps, swaps)) {
		t.Error("a list of swaps has changed")
	}
	if f != knot().disks() {
		t.Error("the four have changed")
	}
}

// P21.1, P21.3: no two rows of swaps share memory, spare room included, and no
// two lists do.
func TestListsAreNew(t *testing.T) {
	all := knot().all(3)
	calls := map[string]func() ([]api.Packed, api.Errno){
		"All":  func() ([]api.Packed, api.Errno) { return packing.All(knot().disks(), 3) },
		"Upto": func() ([]api.Packed, api.Errno) { return packing.Upto(knot().disks(), 3, over(1000, 1)) },
		"Each": func() ([]api.Packed, api.Errno) { return first(packing.Each(knot().disks()), 56), api.OK },
	}
	for name, call := range calls {
		one, e := call()
		wantList(t, name, one, e, all)
		two, e := call()
		for k := range one {
			spoil(one[k].Swaps)
			wantList(t, name+", spoilt", one[k+1:], e, all[k+1:])
		}
		clear(one[:cap(one)])
		wantList(t, name+" once more", two, e, all)
		for k := len(two) - 1; k >= 0; k-- {
			spoil(two[k].Swaps)
			wantList(t, name+", spoilt", two[:k], e, all[:k])
		}
		clear(two[:cap(two)])
		three, e := call()
		wantList(t, name+" a third time", three, e, all)
	}
}

// P21.3, P21.4: the swaps are new each time.
func TestSwapsAreNew(t *testing.T) {
	way := []int{3, 2, 3, 2, 3, 2}
	for range 3 {
		root, swaps, e := packing.Root(knot().row(6).disks())
		wantRoot(t, "Root", root, swaps, e, knot(), way, api.OK)
		_, other, _ := packing.Root(knot().row(6).disks())
		spoil(swaps)
		if !slices.Equal(other, way) {
			t.Error("two rows of Root share memory")
		}
		spoil(other)
	}
	last := knot().all(3)[55].disk()
	for range 3 {
		wantHas(t, knot(), 3, last, []int{3, 2, 3}, true)
		swaps, _, _ := packing.Has(knot().disks(), 3, last)
		other, _, _ := packing.Has(knot().disks(), 3, last)
		spoil(swaps)
		if !slices.Equal(other, []int{3, 2, 3}) {
			t.Error("two rows of Has share memory")
		}
		spoil(other)
	}
}

// P21.2, P21.4, P21.5: what is handed in is not kept.
func TestNothingIsKept(t *testing.T) {
	for range 2 {
		f := knot().disks()
		seq := packing.Each(f)
		f[0], f[1], f[2], f[3] = api.Disk{}, api.Disk{}, api.Disk{}, api.Disk{}
		wantList(t, "Each", first(seq, 20), api.OK, knot().all(2))
		way := roomy([]int{0, 3, 1})
		g, e := packing.At(knot().disks(), way...)
		spoil(way)
		wantFour(t, "At", g, e, knot().changed(0, 3, 1), api.OK)
	}
}

// P21.1 to P21.5: what is refused leaves nothing behind.
func TestRefusalsLeaveNothing(t *testing.T) {
	seq := packing.Each(knot().disks())
	for range 2 {
		packing.All(gap(t, 0).disks(), 3)
		packing.Upto(gap(t, 0).disks(), 3, over(1, 1))
		packing.Has([4]api.Disk{}, 3, a().disk())
		packing.At(gap(t, 0).disks(), 2, 3, 2)
		packing.Root(gap(t, 3).disks())
		packing.Apart(make([]api.Disk, 99)...)
		first(packing.Each(gap(t, 0).disks()), 99)
		l, e := packing.All(knot().disks(), 2)
		wantList(t, "All", l, e, knot().all(2))
		wantList(t, "Each", first(seq, 56), api.OK, knot().all(3))
	}
}
