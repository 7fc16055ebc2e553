package ford_test

import (
	"slices"
	"testing"

	"tracery/api"
	"tracery/ford"
)

// P23.6: what is handed in stays, spare room behind it included.
func TestNothingIsChanged(t *testing.T) {
	l := make([]api.Frac, 0, 9)
	l = append(l, of(0, 1), of(1, 2), of(1, 1), of(1, 3), of(7, 9), of(2, 3))
	kept := slices.Clone(l)
	for count := range len(l) {
		ford.Met(of(1, 2), l[:count]...)
		ford.Met(api.Frac{}, l[:count]...)
		if !slices.Equal(l, kept) || !slices.Equal(l[:9][6:], make([]api.Frac, 3)) {
			t.Fatal("what was handed in has changed")
		}
	}
}

// P23.3 to P23.6: what is handed in is not kept.
func TestNothingIsKept(t *testing.T) {
	d := []api.Frac{of(0, 1), of(1, 2), of(1, 1), of(1, 3)}
	one, e := ford.Met(of(1, 2), d...)
	if e != api.OK {
		t.Fatal(e)
	}
	clear(d)
	wantList(t, "Met", one, []int{0, 1, 2})
	x := of(1, 2)
	around, way := ford.Around(x, 5), ford.Way(x)
	x = api.Frac{}
	wantList(t, "Around", slices.Collect(around), fractions(aroundOf(rat(1, 2), 5)))
	wantList(t, "Way", slices.Collect(pairs(way)), wayOf(rat(1, 2), 9))
	wantNothing(t, "Way of what may not be", pairs(ford.Way(x)))
}

// P23.6: what is answered is new each time.
func TestAnswersAreNew(t *testing.T) {
	for range 2 {
		one, e := ford.Met(of(1, 2), of(0, 1), of(1, 2))
		two, wrong := ford.Met(of(1, 2), of(0, 1), of(1, 2))
		if e != api.OK || wrong != api.OK {
			t.Fatal(e, wrong)
		}
		clear(one[:cap(one)])
		wantList(t, "Met once more", two, []int{0, 1})
		top := ford.Top()
		top.Bend, top.Co = api.Frac{}, api.Frac{}
		want(t, "Top once more", ford.Top(), api.OK, balled(0, 0, 1, 2).disk())
	}
}

// P23.1 to P23.6: what is refused leaves nothing behind.
func TestRefusalsLeaveNothing(t *testing.T) {
	row, around, way := ford.Row(5), ford.Around(of(2, 3), 9), ford.Way(of(5, 7))
	for range 2 {
		for _, x := range wrongFracs() {
			ford.Over(x)
			ford.Near(x, of(1, 2))
			ford.Between(of(1, 2), x)
			ford.Gap(x, x)
			ford.Next(x, 5)
			ford.Last(of(1, 2), 0)
			ford.Best(x, 5)
			ford.Steps(x)
			ford.Met(of(1, 2), of(0, 1), x)
			for range ford.Around(x, 9) {
			}
			for range ford.Way(x) {
			}
			for range ford.Row(-1) {
			}
		}
		wantList(t, "Row", slices.Collect(row), fractions(rowOf(5)))
		wantList(t, "Around", slices.Collect(around), fractions(aroundOf(rat(2, 3), 9)))
		wantList(t, "Way", slices.Collect(pairs(way)), wayOf(rat(5, 7), 99))
		wantMet(t, rat(1, 2), rowOf(5))
	}
}
