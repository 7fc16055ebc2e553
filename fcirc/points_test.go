package fcirc_test

import (
	"iter"
	"math"
	"math/rand"
	"slices"
	"testing"

	"tracery/api"
	"tracery/fcirc"
)

// pointsOf is P12.6, word by word, of a circle that has a radius.
func pointsOf(f api.FCircle, n int) []complex128 {
	centre, _ := centreOf(f)
	radius, _ := radiusOf(f)
	var l []complex128
	for k := range n {
		t := over(float64(k), float64(n))
		s := times(t, t)
		x := times(radius, over(minus(1, s), plus(1, s)))
		y := times(radius, over(plus(t, t), plus(1, s)))
		l = append(l, sumOf(centre, complex(x, y)))
	}
	return l
}

// first takes up to so many, and asks whether they are numbered from 0.
func first(t *testing.T, s iter.Seq2[int, complex128], n int) []complex128 {
	t.Helper()
	var l []complex128
	if n == 0 {
		return l
	}
	for k, z := range s {
		if k != len(l) {
			t.Fatalf("the number %d at the place %d", k, len(l))
		}
		l = append(l, z)
		if len(l) == n {
			break
		}
	}
	return l
}

func wantPoints(t *testing.T, what string, got, want []complex128) {
	t.Helper()
	if !slices.EqualFunc(got, want, like) {
		t.Fatalf("%s: %v, not %v", what, got, want)
	}
}

func mustPoints(t *testing.T, f api.FCircle, n int) iter.Seq2[int, complex128] {
	t.Helper()
	s, e := fcirc.Points(f, n)
	if e != api.OK || s == nil {
		t.Fatalf("Points(%v, %d): %v", f, n, e)
	}
	return s
}

func TestPointsExamples(t *testing.T) { // P12.6
	for _, x := range []struct {
		f    api.FCircle
		n    int
		want []complex128
	}{
		{unit(), 2, []complex128{1, 0.6 + 0.8i}},
		{unit(), 1, []complex128{1}},
		{circle(-1, 0, 1), 2, []complex128{1, 0.6 + 0.8i}},
		{circle(1, -3-4i, 0), 1, []complex128{8 - 4i}},
		{circle(2, -6+8i, 0), 2, []complex128{8 + 4i, 6 + 8i}},
		// Of the radius 0: the centre.
		{circle(1, -3+4i, 25), 3, []complex128{3 + 4i, 3 + 4i, 3 + 4i}},
	} {
		if got := first(t, mustPoints(t, x.f, x.n), -1); !slices.Equal(got, x.want) {
			t.Errorf("Points(%v, %d): %v, not %v", x.f, x.n, got, x.want)
		}
	}
}

// A radius that is an infinity or a NaN goes on as it is.
func TestPointsWithoutBounds(t *testing.T) { // P12.6
	inf, nan := math.Inf(1), math.NaN()
	wantPoints(t, "an infinity", first(t, mustPoints(t, circle(1, 0x1p600, 1), 2), -1), []complex128{complex(inf, nan), complex(inf, inf)})
	wantPoints(t, "a NaN", first(t, mustPoints(t, circle(0x1p600, 0x1p600, 0x1p600), 2), -1), []complex128{complex(nan, nan), complex(nan, nan)})
	// A centre that is an infinity, a radius that is one too.
	wantPoints(t, "both", first(t, mustPoints(t, circle(0x1p-1074, 1, 0), 2), -1), []complex128{complex(nan, nan), complex(nan, inf)})
}

func TestPointsMany(t *testing.T) { // P12.6
	r := rand.New(rand.NewSource(126))
	held := 0
	for _, part := range kinds() {
		for range 3000 {
			f, n := circleOf(r, part), 1+r.Intn(40)
			want, wantE := radiusOf(f)
			s, e := fcirc.Points(f, n)
			if e != wantE {
				t.Fatalf("Points(%v, %d): %v, not %v (radius %v)", f, n, e, wantE, want)
			}
			if e != api.OK {
				wantNothing(t, s)
				continue
			}
			held++
			wantPoints(t, "Points", first(t, s, -1), pointsOf(f, n))
		}
	}
	if held < 3000 {
		t.Errorf("asked only %d times", held)
	}
	for _, n := range []int{1, 2, 3, 1023, api.MaxList - 1, api.MaxList} {
		for _, f := range []api.FCircle{unit(), circle(3, 1-0.1i, -7), circle(-0.1, 5i, 0.3)} {
			wantPoints(t, "Points", first(t, mustPoints(t, f, n), -1), pointsOf(f, n))
		}
	}
}

// wantNothing: no iterator, or one that tells nothing.
func wantNothing(t *testing.T, s iter.Seq2[int, complex128]) {
	t.Helper()
	if s == nil {
		return
	}
	for k, z := range s {
		t.Fatalf("beside an error: %d, %v", k, z)
	}
}

func TestPointsRefuse(t *testing.T) { // P12.6
	nan, inf := math.NaN(), math.Inf(1)
	wrongs := []struct {
		f api.FCircle
		e api.Errno
	}{
		{unit(), api.OK},
		{circle(nan, 0, -1), api.ErrFloat}, {circle(1, complex(0, inf), -1), api.ErrFloat}, {circle(1, 0, -inf), api.ErrFloat}, {circle(0, 1, nan), api.ErrFloat},
		{circle(0, 1, 0), api.ErrZero}, {circle(minusNought(), 1, 0), api.ErrZero}, {api.FCircle{}, api.ErrZero},
		{circle(1, 0, 1), api.ErrNone}, {circle(-1, 1, -2), api.ErrNone},
	}
	for _, x := range wrongs {
		for n, want := range map[int]api.Errno{
			// A count that may not be, or is too great, stands ahead of all else.
			math.MinInt: api.ErrArg, -1: api.ErrArg, 0: api.ErrArg, api.MaxList + 1: api.ErrLong, math.MaxInt: api.ErrLong,
			1: x.e, 2: x.e, api.MaxList: x.e,
		} {
			s, e := fcirc.Points(x.f, n)
			if e != want {
				t.Errorf("Points(%v, %d): %v, not %v", x.f, n, e, want)
			}
			if want != api.OK {
				wantNothing(t, s)
			}
		}
	}
}

func TestPointsAnew(t *testing.T) { // P12.6: left at any time, gone through again
	f := circle(3, 1-2i, -7)
	want := pointsOf(f, 9)
	s := mustPoints(t, f, 9)
	for n := range 10 {
		wantPoints(t, "one more", first(t, s, n), want[:n])
	}
	for k, z := range s { // one inside the other
		wantPoints(t, "the inner one", first(t, s, -1), want)
		wantPoints(t, "the outer one", []complex128{z}, want[k:k+1])
	}
	next, stop := iter.Pull2(s)
	other, stopOther := iter.Pull2(s)
	defer stop()
	defer stopOther()
	for k := range want {
		_, z, _ := next()
		wantPoints(t, "one of two at once", []complex128{z}, want[k:k+1])
		if k%2 == 0 {
			j, z, _ := other()
			wantPoints(t, "the other one", []complex128{z}, want[k/2:k/2+1])
			if j != k/2 {
				t.Fatalf("the number %d", j)
			}
		}
	}
	if _, _, more := next(); more {
		t.Errorf("it goes on behind the last one")
	}
}
