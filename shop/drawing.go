package shop

import (
	"slices"

	"tracery/api"
	"tracery/arcs"
	"tracery/descartes"
	"tracery/fcirc"
	"tracery/frac"
	"tracery/near"
)

// drawing is what is drawn of a thing.
func drawing(x thing) []api.Arc {
	switch x := x.(type) {
	case circle:
		return circleArcs(api.Circle(x))
	case disk:
		return diskArcs(api.Disk(x))
	case four:
		return slices.Concat(each(x[:], diskArcs)...)
	case net:
		return netArcs(x)
	case walls:
		return wallsArcs(x)
	}
	return nil
}

// circleArcs are one, or none of a line.
func circleArcs(c api.Circle) []api.Arc {
	if c.A == frac.Int(0) {
		return nil
	}
	return []api.Arc{got(arcs.Round(got(fcirc.Of(c))))}
}

func diskArcs(d api.Disk) []api.Arc { return circleArcs(got(descartes.Edge(d))) }

func wallsArcs(m walls) []api.Arc {
	var l []api.Arc
	for k := range m.Len() {
		c, _, e := m.Mirror(k + 1)
		check(e)
		l = append(l, circleArcs(c)...)
	}
	return l
}

// netArcs go from each corner to the one at its right, and to the one above it.
func netArcs(n net) []api.Arc {
	var l []api.Arc
	for at, p := range n.All() {
		for _, by := range [2][2]int{{1, 0}, {0, 1}} {
			q, e := n.At(at[0]+by[0], at[1]+by[1])
			if e == api.ErrNone || p.Inf || q.Inf {
				continue
			}
			l = append(l, got(arcs.Straight(got(near.Complex(p.Z)), got(near.Complex(q.Z)))))
		}
	}
	return l
}
