package shop

import (
	"strconv"

	"tracery/api"
	"tracery/circ"
	"tracery/cross"
	"tracery/frac"
	"tracery/gauss"
	"tracery/group"
	"tracery/hurwitz"
	"tracery/meet"
	"tracery/mob"
	"tracery/packing"
	"tracery/plane"
	"tracery/words"
)

func one(line string) []string { return []string{line} }

func oneNumber(n int) []string { return one(strconv.Itoa(n)) }

func (t task) tell() []string { return text(t.thing(0)) }

func (t task) ratio() []string {
	return one(pointText(got(cross.Ratio(t.pointAt(0), t.pointAt(1), t.pointAt(2), t.pointAt(3)))))
}

func (t task) on() []string {
	if got(circ.On(t.circleAt(0), t.pointAt(1))) {
		return one("yes")
	}
	return one("no")
}

func (t task) lies() []string {
	switch got(meet.Lies(t.circleAt(0), t.circleAt(1))) {
	case api.LiesSame:
		return one("same")
	case api.LiesTouching:
		return one("touching")
	case api.LiesCrossing:
		return one("crossing")
	}
	return one("apart")
}

func (t task) meet() []string {
	return each(got(meet.Points(t.circleAt(0), t.circleAt(1))), pointText)
}

func (t task) far() []string {
	p, z, w := api.Picture(t.count(0)), t.pointAt(1), t.pointAt(2)
	must(p == api.Upper || p == api.Round, api.ErrArg)
	must(!z.Inf && !w.Inf, api.ErrOut) // infinity is in no picture, and plane.Far takes numbers alone
	return one(got(frac.Text(got(plane.Far(p, z.Z, w.Z)))))
}

func (t task) order() []string { return oneNumber(got(mob.Order(t.mapAt(0)))) }

func (t task) pack() []string {
	return each(got(packing.All(t.fourAt(0), t.count(1))), func(p api.Packed) string { return got(frac.Text(p.Disk.Bend)) })
}

func (t task) quotients() []string {
	var lines []string
	for q := range hurwitz.Quotients(t.number(0)) {
		lines = append(lines, got(gauss.Text(q)))
	}
	return lines
}

func (t task) word() []string {
	l := each(t.args, func(a api.Arg) []int { return a.Word })
	return one(got(words.Text(got(words.Mul(l...))...)))
}

func (t task) grow() []string {
	g := got(group.New(from(1, len(t.args), t.mapAt)...))
	check(g.Grow(t.count(0)))
	return oneNumber(g.Len())
}

// draw is the one that changes the shop itself, once nothing is left to refuse.
func (t task) draw() []string {
	l := drawing(t.thing(0))
	must(len(t.shop.drawn)+len(l) <= api.MaxList, api.ErrLong)
	t.shop.drawn = append(t.shop.drawn, l...)
	return oneNumber(len(l))
}
