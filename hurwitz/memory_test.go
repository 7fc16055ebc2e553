package hurwitz_test

import (
	"slices"
	"testing"

	"tracery/api"
	"tracery/hurwitz"
)

// P24.4: what is handed in stays, spare room behind it included.
func TestNothingIsChanged(t *testing.T) {
	l := make([]api.Gauss, 0, 9)
	l = append(l, gausses([]cell{is(2, 0), is(3, -1), is(0, 0), is(1, 0), is(0, 2)})...)
	kept := slices.Clone(l)
	for count := range len(l) + 1 {
		hurwitz.Make(l[:count]...)
		if !slices.Equal(l, kept) || !slices.Equal(l[:9][5:], make([]api.Gauss, 4)) {
			t.Fatal("what was handed in has changed")
		}
	}
}

// P24.4: what is handed in is not kept.
func TestNothingIsKept(t *testing.T) {
	l := gausses([]cell{is(2, 0), is(3, 0)})
	one, e := hurwitz.Make(l...)
	clear(l)
	want(t, "Make", one, e, frac(7, 3, 0, 1).gauss())
	z := frac(7, 3, 1, 2).gauss()
	quotients, convergents := hurwitz.Quotients(z), hurwitz.Convergents(z)
	wanted, told := slices.Collect(quotients), slices.Collect(convergents)
	z = api.Gauss{}
	wantList(t, "Quotients", slices.Collect(quotients), wanted)
	wantList(t, "Convergents", slices.Collect(convergents), told)
	wantNothing(t, "Quotients of what may not be", hurwitz.Quotients(z))
}

// P24.4: what is told is new each time.
func TestAnswersAreNew(t *testing.T) {
	z := frac(7, 3, 5, 8)
	l := slices.Collect(hurwitz.Quotients(z.gauss()))
	clear(l[:cap(l)])
	wantList(t, "Quotients once more", slices.Collect(hurwitz.Quotients(z.gauss())), gausses(z.quotients()))
	m := slices.Collect(hurwitz.Convergents(z.gauss()))
	clear(m[:cap(m)])
	wantList(t, "Convergents once more", slices.Collect(hurwitz.Convergents(z.gauss())), toTell(convergents(z.quotients())))
}

// P24.1 to P24.5: what is refused leaves nothing behind.
func TestRefusalsLeaveNothing(t *testing.T) {
	z := frac(-7, 3, 5, 8)
	quotients, told := hurwitz.Quotients(z.gauss()), hurwitz.Convergents(z.gauss())
	for range 2 {
		for _, w := range notWhole()[:40] {
			hurwitz.Nearest(w)
			hurwitz.Div(w, w)
			hurwitz.Div(is(1, 0).gauss(), is(0, 0).gauss())
			hurwitz.Gcd(w, w)
			hurwitz.Combine(w, w)
			hurwitz.First(w)
			hurwitz.Make(w)
			hurwitz.Make(is(1, 0).gauss(), is(0, 0).gauss())
			hurwitz.Lowest(w)
			for range hurwitz.Quotients(w) {
			}
			for range hurwitz.Convergents(w) {
			}
		}
		wantList(t, "Quotients", slices.Collect(quotients), gausses(z.quotients()))
		wantList(t, "Convergents", slices.Collect(told), toTell(convergents(z.quotients())))
		wantGcd(t, tally{}, is(3, 4), is(5, 0))
		wantDiv(t, tally{}, is(5, 3), is(2, 0))
		wantLowest(t, tally{}, z)
		wantMake(t, tally{}, z.quotients()...)
	}
}
