package descartes_test

import (
	"slices"
	"testing"

	"tracery/api"
	"tracery/descartes"
)

// spoil writes over a list and the spare room behind it.
func spoil[T any](l []T) {
	var zero T
	for i := range l[:cap(l)] {
		l[:cap(l)][i] = zero
	}
}

// roomy answers the list with spare room behind it, in which something stands.
func roomy[T any](l []T) []T { return slices.Concat(l, l)[:len(l)] }

// P20.2, P20.5: what is handed in stays, spare room included.
func TestNothingIsChanged(t *testing.T) {
	f, places := knot().disks(), []int{0, 3, 1, 2, 0}
	l, way := roomy(f[:]), roomy(places)
	descartes.Touch(l...)
	descartes.Touch(l[:3]...)
	descartes.Swaps(f, way...)
	descartes.Swaps(f, way[:2]...)
	descartes.Swaps([4]api.Disk(l), way[1:]...)
	descartes.Root([4]api.Disk(l))
	descartes.Rule([4]api.Disk(l))
	if !slices.Equal(l[:8], slices.Concat(f[:], f[:])) {
		t.Error("a list of disks has changed")
	}
	if !slices.Equal(way[:10], slices.Concat(places, places)) {
		t.Error("a list of places has changed")
	}
	if f != knot().disks() {
		t.Error("the four have changed")
	}
}

// P20.2, P20.5: what is handed in is not kept, so that the same call answers the
// same once more.
func TestNothingIsKept(t *testing.T) {
	for range 2 {
		f := knot().disks()
		l, way := roomy(f[:]), roomy([]int{0, 3, 1})
		ok, e := descartes.Touch(l...)
		want(t, "Touch", ok, e, true)
		g, e := descartes.Swaps(f, way...)
		wantFour(t, "Swaps", g, e, knot().changed(0, 3, 1), api.OK)
		spoil(l)
		spoil(way)
		wantFour(t, "Swaps, spoilt", g, e, knot().changed(0, 3, 1), api.OK)
		ok, e = descartes.Touch(f[:]...)
		want(t, "Touch", ok, e, true)
	}
}

// P20.6: the places are new each time.
func TestPlacesAreNew(t *testing.T) {
	f := knot().row(6).disks()
	way := []int{3, 2, 3, 2, 3, 2}
	one, first, e := descartes.Root(f)
	wantRoot(t, "Root", one, first, e, knot(), way, api.OK)
	two, second, e := descartes.Root(f)
	spoil(first)
	wantRoot(t, "Root once more", two, second, e, knot(), way, api.OK)
	three, third, e := descartes.Root(f)
	wantRoot(t, "Root a third time", three, third, e, knot(), way, api.OK)
	spoil(second)
	wantRoot(t, "Root, spoilt", three, third, e, knot(), way, api.OK)
}

// P20.1 to P20.8: what is refused leaves nothing behind.
func TestRefusalsLeaveNothing(t *testing.T) {
	for range 2 {
		descartes.Root(falling(t, 4, 2).disks())
		descartes.Swaps(split().disks(), 3, 3)
		descartes.Fourth(api.Disk{}, a().disk(), b().disk())
		descartes.Touch(make([]api.Disk, 99)...)
		d, e, wrong := descartes.Fourth(o().disk(), a().disk(), b().disk())
		want(t, "the first one of Fourth", d, wrong, about(parts(0, 1, -2, 3), rat(1, 3)).disk())
		want(t, "the second one of Fourth", e, wrong, c().disk())
	}
}
