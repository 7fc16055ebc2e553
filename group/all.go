package group

import (
	"iter"

	"tracery/api"
	"tracery/mob"
)

// All goes over the elements that are told now.
func (g *Group) All() iter.Seq2[int, api.Member] {
	l := g.now()
	return func(yield func(int, api.Member) bool) {
		for i := range l {
			if !yield(i, l.member(i)) {
				return
			}
		}
	}
}

// Points goes over where the elements that are told now send p.
func (g *Group) Points(p api.Point) iter.Seq2[int, api.Point] {
	l := g.now()
	return func(yield func(int, api.Point) bool) {
		for i := range l {
			// Of a point that may not be there is no image at all.
			image, e := mob.At(l[i].m, p)
			if e == api.OK && !yield(i, image) {
				return
			}
		}
	}
}
