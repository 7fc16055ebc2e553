package flips_test

import (
	"testing"

	"tracery/api"
	"tracery/cross"
	"tracery/flips"
	"tracery/gauss"
	"tracery/mob"
	"tracery/nets"
)

// What follows goes by the calls alone.

// twins tells whether in some square between both nets two corners are the same.
func twins(n, o *nets.Net) bool {
	for at, r := range o.All() {
		q, _ := n.At(at[0], at[1])
		for _, by := range [2][2]int{{1, 0}, {0, 1}} {
			p, e := n.At(at[0]-by[0], at[1]-by[1])
			s, _ := o.At(at[0]-by[0], at[1]-by[1])
			if e == api.OK && (p == q || q == r || r == s || s == p || p == r || q == s) {
				return true
			}
		}
	}
	return false
}

// P28.7, P0.9: what is flipped lies beside; and flipped back it is the net.
func TestFlippedLiesBeside(t *testing.T) {
	seen := tally{}
	flippings(2860, 700, func(n mesh, by num, first spot) {
		made := n.net(t)
		o, e := flips.Flip(made, by.gauss(), first.point())
		if e != api.OK {
			return
		}
		is, e := flips.Beside(made, o, by.gauss())
		want(t, "Beside", is, e, !twins(made, o))
		if !is {
			seen["twins"]++
			return
		}
		seen["beside"]++
		p, _ := made.At(0, 0)
		back, e := flips.Flip(o, by.gauss(), p)
		if e != api.OK || !back.Same(made) {
			t.Fatalf("flipped back: %v", e)
		}
	})
	seen.least(t, 100, "beside")
}

// P28.7, P0.9: both flips, in either order, come to the same.
func TestBothEitherWay(t *testing.T) {
	seen := tally{}
	pairings(2861, 1500, func(n mesh, by, also num, first, second spot) {
		made := n.net(t)
		l, e := flips.Both(made, by.gauss(), also.gauss(), first.point(), second.point())
		if e != api.OK {
			return
		}
		p, _ := l[2].At(0, 0)
		ratio, e := gauss.Div(by.gauss(), also.gauss())
		q, f := nets.Corner(n.row[0].point(), first.point(), second.point(), ratio)
		want(t, "the corner", p, e+f, q)
		one, _ := flips.Flip(made, by.gauss(), first.point())
		other, _ := flips.Flip(made, also.gauss(), second.point())
		if !l[0].Same(one) || !l[1].Same(other) {
			t.Fatal("the nets are not the flipped ones")
		}
		last, e := flips.Flip(l[0], also.gauss(), p)
		if e != api.OK || !last.Same(l[2]) {
			t.Fatalf("the third net is another one: %v", e)
		}
		again, e := flips.Flip(l[1], by.gauss(), p)
		if e != api.OK {
			seen["not answered"]++
			return
		}
		seen["answered"]++
		if !again.Same(l[2]) {
			t.Fatal("in the other order it is another one")
		}
		back, e := flips.Both(made, also.gauss(), by.gauss(), second.point(), first.point())
		if e != api.OK || !back[0].Same(l[1]) || !back[1].Same(l[0]) || !back[2].Same(l[2]) {
			t.Fatalf("the other way round: %v", e)
		}
	})
	seen.least(t, 100, "answered")
}

// P28.8: Carry sends first to the last one of Row; each square of a row fits.
func TestCarryAlongRow(t *testing.T) {
	seen := tally{}
	rows(2862, 1000, func(x row, by num, first spot) {
		l, e := flips.Row(points(x.points), gausses(x.labels), by.gauss(), first.point())
		if e != api.OK {
			return
		}
		m, e := flips.Carry(points(x.points), gausses(x.labels), by.gauss())
		p, f := mob.At(m, first.point())
		want(t, "where Carry sends first", p, e+f, l[len(l)-1])
		steps := []api.Mob{}
		for k, a := range x.labels {
			ratio, _ := gauss.Div(a.gauss(), by.gauss())
			s, e := flips.Step(x.points[k].point(), x.points[k+1].point(), ratio)
			q, f := mob.At(s, l[k])
			want(t, "where Step sends a point", q, e+f, l[k+1])
			r, e := cross.Ratio(x.points[k].point(), x.points[k+1].point(), l[k+1], l[k])
			want(t, "the ratio", r, e, api.Point{Z: ratio})
			steps = append([]api.Mob{s}, steps...) // the first one done first
			seen["square"]++
		}
		c, e := mob.Compose(steps...)
		want(t, "all steps", c, e, m)
	})
	seen.least(t, 300, "square")
}

// P28.8: an image of a net flipped is the image flipped.
func TestFlipOfImage(t *testing.T) {
	seen := tally{}
	k := 0
	flippings(2863, 400, func(n mesh, by num, first spot) {
		made := n.net(t)
		o, e := flips.Flip(made, by.gauss(), first.point())
		if e != api.OK {
			return
		}
		k++
		for j, c := range charts() {
			if (j+k)%4 > 0 {
				continue
			}
			m := c.mob()
			image, _ := made.Image(m)
			p, _ := mob.At(m, first.point())
			x, e := flips.Flip(image, by.gauss(), p)
			y, f := o.Image(m)
			if e != api.OK || f != api.OK || !x.Same(y) {
				t.Fatalf("the image flipped: %v, the flipped one's image: %v", e, f)
			}
			seen["image"]++
		}
	})
	seen.least(t, 100, "image")
}

// P28.3: rows and columns are treated alike; a flipped net's sides are the rows
// flipped.
func TestFlipOfTurned(t *testing.T) {
	seen := tally{}
	flippings(2864, 300, func(n mesh, by num, first spot) {
		made := n.net(t)
		o, e := flips.Flip(made, by.gauss(), first.point())
		if e != api.OK {
			return
		}
		turned, _ := made.Turned()
		x, e := flips.Flip(turned, by.gauss(), first.point())
		y, _ := o.Turned()
		if e != api.OK || !x.Same(y) {
			t.Fatalf("turned and flipped: %v", e)
		}
		s, _ := o.Sides()
		l, e := flips.Row(points(n.row), gausses(n.a), by.gauss(), first.point())
		wantPoints(t, "the row", l, e, s.Row)
		l, e = flips.Row(points(n.column), gausses(n.b), by.gauss(), first.point())
		wantPoints(t, "the column", l, e, s.Column)
		seen["flipped"]++
	})
	seen.least(t, 100, "flipped")
}
