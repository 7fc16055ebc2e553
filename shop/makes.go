package shop

import (
	"tracery/api"
	"tracery/chains"
	"tracery/circ"
	"tracery/cross"
	"tracery/descartes"
	"tracery/flips"
	"tracery/invert"
	"tracery/meet"
	"tracery/mirrors"
	"tracery/mob"
	"tracery/nets"
	"tracery/tiles"
)

func (t task) point() thing { return point(t.pointAt(0)) }

func (t task) fourth() thing {
	return point(got(cross.Fourth(t.pointAt(0), t.pointAt(1), t.pointAt(2), t.pointAt(3))))
}

func (t task) bring() thing {
	p, _, e := t.thing(0).(walls).Bring(t.pointAt(1), t.count(2))
	return point(got(p, e))
}

func (t task) home() thing { return point(got(tiles.Home(t.pointAt(0))).Point) }

func (t task) plainMap() thing { return t.mapOf(false) }

func (t task) turningMap() thing { return t.mapOf(true) }

func (t task) mapOf(turns bool) thing {
	return mapping(got(mob.Make(t.number(0), t.number(1), t.number(2), t.number(3), turns)))
}

func (t task) send() thing {
	return mapping(got(mob.Of([3]api.Point(from(0, 3, t.pointAt)), [3]api.Point(from(3, 6, t.pointAt)), false)))
}

func (t task) over() thing { return mapping(got(invert.Over(t.circleAt(0)))) }

func (t task) then() thing { return mapping(got(mob.Compose(from(0, len(t.args), t.mapAt)...))) }

func (t task) back() thing { return mapping(got(mob.Inverse(t.mapAt(0)))) }

func (t task) circle() thing {
	return circle(got(circ.Through(t.pointAt(0), t.pointAt(1), t.pointAt(2))))
}

func (t task) round() thing { return circle(got(circ.Round(t.number(0), t.real(1)))) }

func (t task) line() thing { return circle(got(circ.Line(t.number(0), t.number(1)))) }

func (t task) mix() thing {
	return circle(got(meet.Mix(t.circleAt(0), t.circleAt(1), t.real(2), t.real(3))))
}

func (t task) disk() thing { return disk(got(descartes.Round(t.number(0), t.real(1)))) }

func (t task) half() thing { return disk(got(descartes.Half(t.number(0), t.number(1)))) }

func (t task) member() thing { return disk(got(chains.At(t.fourAt(0), t.count(1)))) }

func (t task) four() thing {
	l := from(0, 4, t.diskAt)
	must(got(descartes.Touch(l...)), api.ErrTouch)
	return four(l)
}

func (t task) swap() thing { return four(got(descartes.Swap(t.fourAt(0), t.count(1)))) }

func (t task) knife() thing { return four(got(chains.Knife(t.real(0)))) }

// net has the labels behind both counts, then the points of the first row, then
// those of the first column but the one that it begins with.
func (t task) net() thing {
	w, h := t.count(0), t.count(1)
	labels, row := 2, 2+w+h
	column := row + w + 1
	s := api.NetSides{
		A:      from(labels, labels+w, t.number),
		B:      from(labels+w, row, t.number),
		Row:    from(row, column, t.pointAt),
		Column: append([]api.Point{t.pointAt(row)}, from(column, len(t.args), t.pointAt)...),
	}
	return net{got(nets.New(s))}
}

func (t task) flip() thing {
	return net{got(flips.Flip(t.netAt(0), t.number(1), t.pointAt(2)))}
}

func (t task) mirrors() thing {
	var circles []api.Circle
	var sides []int
	for k := 0; k < len(t.args); k += 2 {
		circles = append(circles, t.circleAt(k))
		sides = append(sides, 2*t.count(k+1)-1)
	}
	return walls{got(mirrors.New(circles, sides))}
}

func (t task) image() thing {
	m := t.mapAt(0)
	switch x := t.thing(1).(type) {
	case point:
		return point(got(mob.At(m, api.Point(x))))
	case circle:
		return circle(got(circ.Image(m, api.Circle(x))))
	case disk:
		return disk(got(descartes.Image(m, api.Disk(x))))
	case four:
		return four(got(chains.Carry(m, x)))
	}
	return net{got(t.netAt(1).Image(m))} // of others there are no images
}
