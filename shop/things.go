package shop

import (
	"strconv"
	"strings"

	"tracery/api"
	"tracery/circ"
	"tracery/frac"
	"tracery/gauss"
	"tracery/mirrors"
	"tracery/mob"
	"tracery/nets"
	"tracery/sphere"
)

// thing is what stands under a name.
type thing interface{ kind() api.ThingKind }

type (
	point   api.Point
	mapping api.Mob
	circle  api.Circle
	disk    api.Disk
	four    [4]api.Disk
	net     struct{ *nets.Net }
	walls   struct{ *mirrors.Mirrors }
)

func (point) kind() api.ThingKind   { return api.ThingPoint }
func (mapping) kind() api.ThingKind { return api.ThingMap }
func (circle) kind() api.ThingKind  { return api.ThingCircle }
func (disk) kind() api.ThingKind    { return api.ThingDisk }
func (four) kind() api.ThingKind    { return api.ThingFour }
func (net) kind() api.ThingKind     { return api.ThingNet }
func (walls) kind() api.ThingKind   { return api.ThingMirrors }

const blank = " "

// told is a thing as the shop tells it.
func told(x thing) api.Thing {
	t := api.Thing{Kind: x.kind()}
	switch x := x.(type) {
	case point:
		t.Point = api.Point(x)
	case mapping:
		t.Map = api.Mob(x)
	case circle:
		t.Circle = api.Circle(x)
	case disk:
		t.Disk = api.Disk(x)
	case four:
		t.Four = x
	case net:
		t.Net = got(x.Sides())
	}
	return t
}

// text is a thing's text, lines.
func text(x thing) []string {
	switch x := x.(type) {
	case point:
		return []string{got(sphere.Text(api.Point(x)))}
	case mapping:
		return []string{got(mob.Text(api.Mob(x)))}
	case circle:
		return []string{got(circ.Text(api.Circle(x)))}
	case disk:
		return []string{diskText(api.Disk(x))}
	case four:
		return each(x[:], diskText)
	case net:
		return netText(x)
	case walls:
		return wallsText(x)
	}
	return nil
}

// each is what is made of each of a list, in order.
func each[T, U any](l []T, made func(T) U) []U {
	out := make([]U, 0, len(l))
	for _, x := range l {
		out = append(out, made(x))
	}
	return out
}

func diskText(d api.Disk) string {
	return strings.Join([]string{got(frac.Text(d.Bend)), got(gauss.Text(d.Mid)), got(frac.Text(d.Co))}, blank)
}

func pointText(p api.Point) string { return got(sphere.Text(p)) }

func netText(n net) []string {
	_, h := n.Size()
	rows := make([][]string, h+1)
	for at, p := range n.All() {
		rows[at[1]] = append(rows[at[1]], pointText(p))
	}
	return each(rows, func(row []string) string { return strings.Join(row, blank) })
}

func wallsText(m walls) []string {
	var lines []string
	for k := range m.Len() {
		c, side, e := m.Mirror(k + 1)
		check(e)
		lines = append(lines, got(circ.Text(c))+blank+strconv.Itoa(side))
	}
	return lines
}
