package chains_test

import (
	"testing"

	"tracery/api"
	"tracery/chains"
)

// P22.1 to P22.7: what is handed in stays.
func TestNothingIsChanged(t *testing.T) {
	for _, f := range []quad{knot(), strip(), holed(most())} {
		row, m, d, x := f.disks(), flip().mob(), c().disk(), over(1, 2)
		chains.At(row, 5)
		chains.On(row, 2)
		chains.On(row, 3)
		chains.Place(row, d)
		chains.Carry(m, row)
		chains.Straight(row)
		chains.Knife(x)
		chains.Height(x, 3)
		seq, _ := chains.Walk(row, -4)
		first(seq, 9)
		if row != f.disks() || m != flip().mob() || d != c().disk() || x != over(1, 2) {
			t.Error("what was handed in has changed")
		}
	}
}

// P22.2: what is handed in is not kept.
func TestNothingIsKept(t *testing.T) {
	for range 2 {
		row := knot().disks()
		seq, e := chains.Walk(row, -2)
		if e != api.OK {
			t.Fatal(e)
		}
		row[0], row[1], row[2], row[3] = api.Disk{}, api.Disk{}, api.Disk{}, api.Disk{}
		wantTold(t, "Walk", first(seq, 9), knot().walked(-2, 9))
		for i := range row {
			row[i] = strip()[i].disk()
			wantTold(t, "Walk", first(seq, 9), knot().walked(-2, 9))
		}
	}
}

// P22.2 to P22.6: what is told is new each time.
func TestAnswersAreNew(t *testing.T) {
	for range 2 {
		strips := chains.Strip()
		clear(strips[:])
		want(t, "Strip once more", chains.Strip(), api.OK, strip().disks())
		rows := map[string]func() ([4]api.Disk, api.Errno){
			"On":    func() ([4]api.Disk, api.Errno) { return chains.On(strip().disks(), 2) },
			"Knife": func() ([4]api.Disk, api.Errno) { return chains.Knife(over(1, 2)) },
			"Carry": func() ([4]api.Disk, api.Errno) { return chains.Carry(flip().mob(), strip().disks()) },
		}
		wanted := map[string]quad{"On": strip().on(2), "Knife": knife(rat(1, 2)), "Carry": flip().images(strip())}
		for name, call := range rows {
			one, e := call()
			two, wrong := call()
			clear(one[:])
			if e != api.OK || wrong != api.OK {
				t.Fatalf("%s is refused", name)
			}
			want(t, name, two, wrong, wanted[name].disks())
		}
	}
}

// P22.1 to P22.7: what is refused leaves nothing behind.
func TestRefusalsLeaveNothing(t *testing.T) {
	seq := walk(t, knot(), 0)
	for range 2 {
		bad := holed(most()).disks()
		chains.At(bad, 2)
		chains.On(bad, 1)
		chains.Place(bad, c().disk())
		chains.Carry(stretch(in(1, 1)).mob(), bad)
		chains.Straight(strip().out().disks())
		chains.Knife(over(1, 1))
		chains.Height(over(1, 2), api.MaxChain+1)
		none, _ := chains.Walk(bad, 2)
		first(none, 9)
		for n := -3; n <= 3; n++ {
			wantAt(t, knot(), n)
			wantOn(t, knot(), n)
			wantPlace(t, knot(), knot().at(n), n)
		}
		wantTold(t, "Walk", first(seq, 9), knot().walked(0, 9))
	}
}
