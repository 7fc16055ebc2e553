package chains_test

import (
	"testing"

	"tracery/api"
	"tracery/chains"
)

func wantOn(t *testing.T, f quad, by int) {
	t.Helper()
	row, e := chains.On(f.disks(), by)
	wantRow(t, "On", row, e, f.on(by))
}

func TestOn(t *testing.T) { // P22.3
	for _, f := range rows(120) {
		for _, by := range numbers() {
			wantOn(t, f, by)
		}
		row, e := chains.On(f.disks(), 0)
		want(t, "On by 0", row, e, f.disks())
	}
}

func TestOnExamples(t *testing.T) { // P22.3
	s := strip()
	for by, wanted := range map[int]quad{
		3:             {s[0], s[1], balled(1, 6, 1, 36), balled(1, 8, 1, 64)},
		-1:            {s[0], s[1], balled(1, -2, 1, 4), balled(1, 0, 1, 0)},
		api.MaxChain:  {s[0], s[1], balled(1, 1<<21, 1, 1<<42), balled(1, 1<<21+2, 1, (1<<21+2)*(1<<21+2))},
		-api.MaxChain: {s[0], s[1], balled(1, -1<<21, 1, 1<<42), balled(1, 2-1<<21, 1, (1<<21-2)*(1<<21-2))},
	} {
		row, e := chains.On(chains.Strip(), by)
		want(t, "On of the strip", row, e, wanted.disks())
	}
}

func TestOnTooBig(t *testing.T) { // P22.3
	seen := tally{}
	for _, f := range gaps() {
		for by := -20; by <= 20; by++ {
			wantOn(t, f, by)
			now, next := f.at(by).fits(), f.at(by+1).fits()
			seen.when("both fit", now && next)
			seen.when("the first one alone is too big", !now && next)
			seen.when("the second one alone is too big", now && !next)
			seen.when("both are too big", !now && !next)
		}
		for _, by := range numbers() {
			wantOn(t, f, by)
		}
	}
	seen.least(t, 8, "both fit", "the first one alone is too big", "the second one alone is too big", "both are too big")
	// The disk by + 1 of MaxChain: its Co is 4 n n a, with n being MaxChain + 1.
	n := int64(api.MaxChain + 1)
	a := shared(top(), 4*n*n)
	wantOn(t, strip().stretched(flat(ofInt(a))), api.MaxChain)
	f := strip().stretched(flat(ofInt(more(a, 1))))
	if !f.at(api.MaxChain).fits() {
		t.Fatal("the disk MaxChain is to fit")
	}
	row, e := chains.On(f.disks(), api.MaxChain)
	wantNone(t, "On by MaxChain", row, e, api.ErrBig)
}

func TestOnRefuses(t *testing.T) { // P22.3
	for _, row := range wrongRows() {
		for _, by := range []int{0, 1, -5, api.MaxChain, api.MaxChain + 1} {
			row, e := chains.On(row, by)
			wantNone(t, "On of a wrong disk", row, e, api.ErrArg)
		}
	}
	apart := loose()
	for _, by := range wrongNumbers() {
		for _, f := range append(apart[:12:12], strip(), knot(), holed(most())) {
			row, e := chains.On(f.disks(), by)
			wantNone(t, "On by a wrong number", row, e, api.ErrArg)
		}
	}
	for _, f := range apart {
		for _, by := range []int{0, 1, -5, api.MaxChain, -api.MaxChain} {
			row, e := chains.On(f.disks(), by)
			wantNone(t, "On of four that do not touch", row, e, api.ErrTouch)
		}
	}
}
