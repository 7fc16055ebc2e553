package arcs_test

import (
	"math/rand"
	"testing"

	"tracery/api"
	"tracery/arcs"
)

func TestBackOfBack(t *testing.T) { // P29.8
	arcsOf(311, 2000, func(a api.Arc) {
		b, e := arcs.Back(a)
		if e != api.OK {
			t.Fatalf("Back(%v): %v", a, e)
		}
		c, e := arcs.Back(b)
		wantArc(t, told("Back of Back", a), c, e, a, api.OK)
	})
}

// No half is refused at any depth up to d.
func halvesWell(a api.Arc, depth int) bool { return len(piecesOf(a, depth)) == 1<<depth }

func TestPointsOfDepths(t *testing.T) { // P29.8
	asked := 0
	arcsOf(312, 300, func(a api.Arc) {
		for depth := 1; depth <= 5 && halvesWell(a, depth); depth++ {
			less, more := gather(t, mustPoints(t, a, depth-1), -1), gather(t, mustPoints(t, a, depth), -1)
			if len(more) != 1<<depth+1 || len(less) != 1<<(depth-1)+1 {
				t.Fatalf("Points(%v, %d): %d", a, depth, len(more))
			}
			for k, z := range less {
				if !like(z, more[2*k]) {
					t.Fatalf("Points(%v, %d): %v at %d, not %v", a, depth, more[2*k], 2*k, z)
				}
			}
			asked++
		}
	})
	if asked < 1000 {
		t.Errorf("asked only %d times", asked)
	}
	for _, a := range []api.Arc{straight(0, 1+1i), round(0.1, 3), half()} {
		if n := len(gather(t, mustPoints(t, a, 12), -1)); n != 4097 {
			t.Errorf("Points(%v, 12): %d", a, n)
		}
	}
}

func TestReadOfText(t *testing.T) { // P29.8, P0.12
	r := rand.New(rand.NewSource(313))
	back := func(l []api.Arc) {
		s, e := arcs.Text(l...)
		if e != api.OK {
			t.Fatal(e)
		}
		got, e := arcs.Read(s)
		if e != api.OK || len(got) != len(l) {
			t.Fatalf("Read of Text of %d arcs: %d, %v", len(l), len(got), e)
		}
		for k := range l {
			if !arcs.Like(got[k], l[k]) || !likeArcs(got[k], l[k]) {
				t.Fatalf("Read of Text: %v, not %v", got[k], l[k])
			}
		}
		if again, e := arcs.Text(got...); again != s || e != api.OK {
			t.Fatalf("Text of Read: %q, %v, not %q", again, e, s)
		}
	}
	back(goodArcs())
	for _, part := range finiteKinds() {
		for _, n := range []int{0, 1, 2, 10, api.MaxList} {
			l := make([]api.Arc, n)
			for k := range l {
				l[k] = part.arc(r)
			}
			back(l)
		}
	}
}

func holds(low, high, z complex128) bool {
	return real(low) <= real(z) && real(z) <= real(high) && imag(low) <= imag(z) && imag(z) <= imag(high)
}

func TestBoxHoldsBoxes(t *testing.T) { // P29.8
	r := rand.New(rand.NewSource(314))
	for _, part := range finiteKinds() {
		for range 500 {
			var l []api.Arc
			for range 1 + r.Intn(6) {
				if a := part.arc(r); boxed(a) {
					l = append(l, a)
				}
			}
			if len(l) == 0 {
				continue
			}
			low, high, e := arcs.Box(l...)
			if e != api.OK {
				t.Fatalf("Box(%v): %v", l, e)
			}
			for _, a := range l {
				x, y, e := arcs.Box(a)
				if e != api.OK || !holds(low, high, x) || !holds(low, high, y) {
					t.Fatalf("Box(%v): %v, %v does not hold %v, %v (%v)", l, low, high, x, y, e)
				}
			}
		}
	}
}

func boxed(a api.Arc) bool {
	_, _, e := arcs.Box(a)
	return e == api.OK
}

// P29.8's words hold where the middle is exact, and the ends are unlike: here of
// whole numbers. Else Through may find three that are not on one line.
func TestImageByOne(t *testing.T) { // P29.8
	r := rand.New(rand.NewSource(315))
	n := minusNought()
	ask := func(p, q complex128) {
		if p == q {
			return
		}
		a, e := arcs.Image(still(), straight(p, q))
		if e != api.OK || a.Kind != api.ArcStraight || a.From != p || a.To != q {
			t.Fatalf("Image of straight from %v to %v: %v, %v", p, q, a, e)
		}
	}
	for range 20000 {
		number := func() complex128 {
			return complex(float64(r.Intn(1<<21)-1<<20), float64(r.Intn(1<<21)-1<<20))
		}
		ask(number(), number())
		ask(complex(few(r), few(r)), complex(few(r), few(r)))
	}
	ask(complex(n, n), 1)
	ask(1, complex(0, n))
}

// The image by 1, 0, 0, 1 goes on going by Through, whatever comes of it.
func TestImageByOneIsThrough(t *testing.T) { // P29.5
	r := rand.New(rand.NewSource(316))
	bows := 0
	for range 5000 {
		p, q := complex(usual(r), usual(r)), complex(usual(r), usual(r))
		m, _ := middleOf(straight(p, q))
		want, wantE := arcThrough(p, m, q)
		a, e := arcs.Image(still(), straight(p, q))
		wantArc(t, told("Image", p, q), a, e, want, wantE)
		if a.Kind == api.ArcBow {
			bows++
		}
	}
	if bows < 100 {
		t.Error(bows)
	}
}

// What is asked twice is answered alike.
func TestAgain(t *testing.T) { // P29.8
	m := mapped(1, 2i, 0.3, 1-1i)
	arcsOf(317, 500, func(a api.Arc) {
		b, e := arcs.Image(m, a)
		c, d := arcs.Image(m, a)
		wantArc(t, told("Image", a), c, d, b, e)
	})
}
