package arcs

import (
	"iter"

	"tracery/api"
	"tracery/cplx"
)

// deepest is how often Points halves an arc at the most.
const deepest = 12

// Middle tells the point midway; of a round one the leftmost.
func Middle(a api.Arc) (complex128, api.Errno) {
	if e := Check(a); e != api.OK {
		return 0, e
	}
	var m complex128
	switch a.Kind {
	case api.ArcStraight:
		m = cplx.Scale(cplx.Add(a.From, a.To), 0.5)
	case api.ArcRound:
		m = cplx.Add(a.Centre, cplx.Of(-a.Radius, 0))
	case api.ArcBow:
		chord := cplx.Sub(a.To, a.From)
		if chord == 0 {
			return 0, api.ErrNone
		}
		m = cplx.Add(a.Centre, cplx.Scale(outward(chord, a.Left), a.Radius/cplx.Abs(chord)))
	}
	if !finite(m) {
		return 0, api.ErrFloat
	}
	return m, api.OK
}

// outward is a bow's chord turned to the side on which the bow is.
func outward(chord complex128, left bool) complex128 {
	if left {
		return cplx.Neg(cplx.Turn(chord))
	}
	return cplx.Turn(chord)
}

// Halves tells an arc's two halves.
func Halves(a api.Arc) (api.Arc, api.Arc, api.Errno) {
	m, e := Middle(a)
	if e != api.OK {
		return api.Arc{}, api.Arc{}, e
	}
	if a.Kind == api.ArcRound {
		right := rightmost(a)
		if !finite(right) {
			return api.Arc{}, api.Arc{}, api.ErrFloat
		}
		// Cut open it is a bow that comes back to where it begins.
		a.Kind, a.From, a.To, a.Left = api.ArcBow, right, right, true
	}
	first, second := a, a
	first.To, second.From = m, m
	return first, second, api.OK
}

// Points goes over points of an arc, halved so many times.
func Points(a api.Arc, depth int) (iter.Seq2[int, complex128], api.Errno) {
	if e := Check(a); e != api.OK {
		return nil, e
	}
	if depth < 0 || depth > deepest {
		return nil, api.ErrArg
	}
	return func(yield func(int, complex128) bool) {
		n, end := 0, complex128(0)
		for p := range pieces(a, depth) {
			var from complex128
			from, end = ends(p)
			if !yield(n, from) {
				return
			}
			n++
		}
		yield(n, end)
	}, api.OK
}

// piece is a part of an arc, and how often it is yet to be halved.
type piece struct {
	arc  api.Arc
	more int
}

// pieces goes over the parts in their order. What lies on the pile is what is yet
// to come, the next one on top; each going over has a pile of its own.
func pieces(a api.Arc, depth int) iter.Seq[api.Arc] {
	return func(yield func(api.Arc) bool) {
		pile := []piece{{a, depth}}
		for len(pile) > 0 {
			top := pile[len(pile)-1]
			pile = pile[:len(pile)-1]
			first, second, whole := top.halved()
			if !whole {
				pile = append(pile, second, first)
			} else if !yield(top.arc) {
				return
			}
		}
	}
}

// halved tells two pieces, or that it stays whole.
func (p piece) halved() (first, second piece, whole bool) {
	if p.more == 0 {
		return piece{}, piece{}, true
	}
	a, b, e := Halves(p.arc)
	return piece{a, p.more - 1}, piece{b, p.more - 1}, e != api.OK
}

func ends(a api.Arc) (from, to complex128) {
	if a.Kind == api.ArcRound {
		return rightmost(a), rightmost(a)
	}
	return a.From, a.To
}

func rightmost(a api.Arc) complex128 { return outermost(a)[0] }

// outermost are the points of a circle at the right, above, at the left, below.
func outermost(a api.Arc) [4]complex128 {
	r := a.Radius
	l := [4]complex128{cplx.Of(r, 0), cplx.Of(0, r), cplx.Of(-r, 0), cplx.Of(0, -r)}
	for k, w := range l {
		l[k] = cplx.Add(a.Centre, w)
	}
	return l
}
