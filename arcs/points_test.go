package arcs_test

import (
	"iter"
	"math"
	"slices"
	"testing"

	"tracery/api"
	"tracery/arcs"
)

func mustPoints(t *testing.T, a api.Arc, depth int) iter.Seq2[int, complex128] {
	t.Helper()
	s, e := arcs.Points(a, depth)
	if e != api.OK || s == nil {
		t.Fatalf("Points(%v, %d): %v", a, depth, e)
	}
	return s
}

func wantPoints(t *testing.T, what string, got, want []complex128) {
	t.Helper()
	if !slices.EqualFunc(got, want, like) {
		t.Fatalf("%s: %v, not %v", what, got, want)
	}
}

func TestPointsExamples(t *testing.T) { // P29.4
	inf, n := math.Inf(1), minusNought()
	for _, x := range []struct {
		a     api.Arc
		depth int
		want  []complex128
	}{
		{straight(0, 2), 0, []complex128{0, 2}},
		{straight(0, 2), 1, []complex128{0, 1, 2}},
		{straight(0, 2), 2, []complex128{0, 0.5, 1, 1.5, 2}},
		{straight(complex(n, 0), complex(n, n)), 0, []complex128{complex(n, 0), complex(n, n)}},
		{round(1, 2), 0, []complex128{3, 3}},
		{round(complex(n, n), 2), 0, []complex128{2, 2}},
		{round(1, 2), 1, []complex128{3, -1, 3}},
		{round(0, 1), 2, []complex128{1, 1i, -1, complex(0, -1), 1}},
		{half(), 0, []complex128{1, -1}},
		{half(), 1, []complex128{1, 1i, -1}},
		// What can't be halved stays whole.
		{bow(1, 1, 0, 1, true), 12, []complex128{1, 1}},
		{straight(0x1p1023, 0x1p1023), 5, []complex128{0x1p1023, 0x1p1023}},
		{round(0x1p1023, 0x1p1023), 3, []complex128{complex(inf, 0), complex(inf, 0)}},
		{round(0x1p1023, 0x1p1023), 0, []complex128{complex(inf, 0), complex(inf, 0)}},
		{round(-0x1p1023, 0x1p1023), 3, []complex128{0, 0}},
		// One half can be halved, the other one can't.
		{straight(0, math.MaxFloat64), 2, []complex128{0, math.MaxFloat64 / 4, math.MaxFloat64 / 2, math.MaxFloat64}},
		// So long as it is halved, so far it gets.
		{straight(0, 0x1p-1074), 2, []complex128{0, 0, 0, 0, 0x1p-1074}},
	} {
		got := gather(t, mustPoints(t, x.a, x.depth), -1)
		wantPoints(t, told("Points", x.a, x.depth), got, x.want)
	}
}

func TestPointsRefuse(t *testing.T) { // P29.4
	for _, depth := range []int{-1, 13, 14, math.MinInt, math.MaxInt, 1 << 32} {
		for _, a := range []api.Arc{straight(0, 1), round(0, 1), half(), {}} {
			if s, e := arcs.Points(a, depth); s != nil || e != api.ErrArg {
				t.Errorf("Points(%v, %d): %v", a, depth, e)
			}
		}
	}
}

func TestPointsMany(t *testing.T) { // P29.4
	k, short, all := 0, 0, 0
	arcsOf(300, 400, func(a api.Arc) {
		k++
		depth := k % 7
		got := gather(t, mustPoints(t, a, depth), -1)
		wantPoints(t, told("Points", a, depth), got, pointsOf(a, depth))
		if len(got) < 1<<depth+1 {
			short++
		} else {
			all++
		}
	})
	if short < 100 || all < 500 {
		t.Error(short, all)
	}
	for _, a := range []api.Arc{straight(0.1, 0.7-3i), round(0.1+0.7i, 3), half(), bow(0.3, 0.7i, -5+0.1i, 5.4, false)} {
		for depth := range 13 {
			got := gather(t, mustPoints(t, a, depth), -1)
			wantPoints(t, told("Points", a, depth), got, pointsOf(a, depth))
		}
	}
}

// P29.4: left early, gone over again, gone over within itself.
func TestPointsAnew(t *testing.T) {
	for _, a := range []api.Arc{straight(0.1, 0.7-3i), round(0.1+0.7i, 3), half(), bow(1, 1, 0, 1, true)} {
		want := pointsOf(a, 3)
		s := mustPoints(t, a, 3)
		for n := range len(want) + 1 {
			wantPoints(t, "left early", gather(t, s, n), want[:n])
			wantPoints(t, "gone over again", gather(t, s, -1), want)
		}
		var outer []complex128
		for k, z := range s {
			outer = append(outer, z)
			wantPoints(t, "within itself, left", gather(t, s, k+1), want[:k+1])
			wantPoints(t, "within itself", gather(t, s, -1), want)
		}
		wantPoints(t, "about others", outer, want)
	}
}

// Two that are gone over by turns are not in each other's way.
func TestPointsByTurns(t *testing.T) { // P29.4
	s := mustPoints(t, half(), 4)
	want := pointsOf(half(), 4)
	next, stop := iter.Pull2(s)
	defer stop()
	other, end := iter.Pull2(s)
	defer end()
	for k := range want {
		i, z, ok := next()
		j, w, good := other()
		if !ok || !good || i != k || j != k || !like(z, want[k]) || !like(w, want[k]) {
			t.Fatal(k, i, j, z, w)
		}
	}
	if _, _, ok := next(); ok {
		t.Error("more than all")
	}
}
