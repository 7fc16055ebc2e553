package chains_test

import (
	"testing"

	"tracery/api"
	"tracery/chains"
)

func wantAt(t *testing.T, f quad, n int) {
	t.Helper()
	d, e := chains.At(f.disks(), n)
	wantDisk(t, "At", d, e, f.at(n))
}

func TestAt(t *testing.T) { // P22.1
	for _, f := range rows(150) {
		for _, n := range numbers() {
			wantAt(t, f, n)
		}
	}
}

func TestAtExamples(t *testing.T) { // P22.1
	for n, x := range map[int]ball{5: balled(1, 10, 1, 100), -1: balled(1, -2, 1, 4), 0: balled(1, 0, 1, 0), 1: balled(1, 2, 1, 4), api.MaxChain: balled(1, 1<<21, 1, 1<<42), -api.MaxChain: balled(1, -1<<21, 1, 1<<42)} {
		d, e := chains.At(chains.Strip(), n)
		want(t, "At of the strip", d, e, x.disk())
	}
	for n, x := range map[int]ball{0: b(), 1: c(), 2: about(parts(1, 2, 2, 3), rat(1, 6)), -1: about(parts(0, 1, -2, 3), rat(1, 3))} {
		d, e := chains.At(knot().disks(), n)
		want(t, "At of the knot", d, e, x.disk())
	}
	// With a disk and a half plane as rails, half planes come as disks: this one
	// is the strip's second rail, between both of which two disks stand.
	s := strip()
	row := quad{s[2], s[0], s[3], s[1]}
	d, e := chains.At(row.disks(), 1)
	want(t, "a half plane in the row", d, e, s[1].disk())
	d, e = chains.At(row.disks(), 2)
	want(t, "what comes behind it", d, e, about(in(-2, 1), rat(1, 1)).disk())
	// What lies outside of a circle stands in the row as any other.
	row = quad{a(), b(), c(), o()}
	d, e = chains.At(row.disks(), 1)
	want(t, "what lies outside", d, e, o().disk())
	d, e = chains.At(row.disks(), 2)
	want(t, "what comes behind it", d, e, about(parts(0, 1, -2, 3), rat(1, 3)).disk())
}

// The next disk is what the one ahead is changed for: chapter 20's words.
func TestAtByChanging(t *testing.T) { // P22.1
	for _, f := range rows(60) {
		on, back := f, f
		for n := range 12 {
			at, e := chains.At(f.disks(), n)
			wantDisk(t, "At, on", at, e, on[2+n%2])
			on = on.changed(2 + n%2)
			at, e = chains.At(f.disks(), 1-n)
			wantDisk(t, "At, back", at, e, back[3-n%2])
			back = back.changed(3 - n%2)
		}
	}
}

func TestAtTooBig(t *testing.T) { // P22.1
	seen := tally{}
	for _, f := range gaps() {
		for n := -20; n <= 20; n++ {
			x := f.at(n)
			wantAt(t, f, n)
			seen.fit(x.fits())
			beside := f.at(n-1).fits() && f.at(n+1).fits()
			seen.when("between two that are not", !x.fits() && beside)
			seen.when("behind one that is", x.fits() && (n > 1 && !f.at(n-1).fits() || n < 0 && !f.at(n+1).fits()))
			seen.when("Bend", !upTo(x.bend))
			seen.when("Re alone", !upTo(x.mid.re) && upTo(x.bend) && upTo(x.mid.im) && upTo(x.co))
			seen.when("Im alone", !upTo(x.mid.im) && upTo(x.bend) && upTo(x.mid.re) && upTo(x.co))
			seen.when("Co alone", !upTo(x.co) && upTo(x.bend) && x.mid.fits())
		}
		for _, n := range numbers() {
			wantAt(t, f, n)
		}
	}
	seen.least(t, 4, "fits", "too big", "between two that are not", "behind one that is", "Bend", "Re alone", "Im alone", "Co alone")
}

// Where a number has just as many bytes as may be, and where it has one more.
func TestAtTheBound(t *testing.T) { // P22.1
	for _, n := range []int{2, 5, -3, 1000, api.MaxChain, -api.MaxChain} {
		// The Co of disk n is 4 n n a.
		a := shared(top(), 4*int64(n)*int64(n))
		f := strip().stretched(flat(ofInt(a)))
		d, e := chains.At(f.disks(), n)
		want(t, "At the bound", d, e, f.at(n).disk())
		f = strip().stretched(flat(ofInt(more(a, 1))))
		d, e = chains.At(f.disks(), n)
		wantNone(t, "At past the bound", d, e, api.ErrBig)
	}
}

func TestAtRefuses(t *testing.T) { // P22.1
	for _, row := range wrongRows() {
		for _, n := range []int{0, 1, -5, api.MaxChain, api.MaxChain + 1} {
			d, e := chains.At(row, n)
			wantNone(t, "At of a wrong disk", d, e, api.ErrArg)
		}
	}
	apart := loose()
	for _, n := range wrongNumbers() {
		for _, f := range append(apart[:12:12], strip(), knot(), holed(most())) {
			d, e := chains.At(f.disks(), n)
			wantNone(t, "At a wrong number", d, e, api.ErrArg)
		}
	}
	for _, f := range apart {
		for _, n := range []int{0, 1, -5, api.MaxChain, -api.MaxChain} {
			d, e := chains.At(f.disks(), n)
			wantNone(t, "At of four that do not touch", d, e, api.ErrTouch)
		}
	}
}
