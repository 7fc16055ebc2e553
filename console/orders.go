package console

import (
	"strconv"
	"strings"

	"tracery/api"
	"tracery/arcs"
	"tracery/circ"
	"tracery/cplx"
	"tracery/descartes"
	"tracery/fixed"
	"tracery/ford"
	"tracery/frac"
	"tracery/gauss"
	"tracery/near"
	"tracery/script"
	"tracery/shop"
	"tracery/sphere"
	"tracery/words"
)

const (
	blank = " "
	done  = "ok"

	mostRow = 50
)

// statement does a line of a verb of the shop's.
func (d *desk) statement(v verb, line string) string {
	told := got(d.shop.Do(got(script.Read(line))))
	if v.makes {
		return lines(done)
	}
	return lines(told...)
}

func (d *desk) things([]given) string {
	var l []string
	for name, kind := range d.shop.All() {
		l = append(l, name+blank+strconv.Itoa(int(kind)))
	}
	return lines(l...)
}

func (d *desk) show(l []given) string { return lines(got(d.shop.Text(l[0].name))...) }

func (d *desk) near(l []given) string {
	p := l[0].thing.Point
	if p.Inf {
		return lines(got(sphere.Text(p)))
	}
	return lines(cplx.Text(got(near.Complex(p.Z))))
}

func (d *desk) kind(l []given) string {
	m := l[0].thing.Map
	return lines(strconv.Itoa(int(got(fixed.Kind(m)))) + blank + strconv.Itoa(got(fixed.Order(m))))
}

func (d *desk) stay(l []given) string {
	var told []string
	for _, p := range got(fixed.Points(l[0].thing.Map)) {
		told = append(told, got(sphere.Text(p)))
	}
	return lines(told...)
}

func (d *desk) centre(l []given) string {
	c := l[0].thing.Circle
	return lines(got(sphere.Text(got(circ.Centre(c)))) + blank + fracText(got(circ.Power(c))))
}

func (d *desk) chord(l []given) string {
	return lines(fracText(got(sphere.Chord(l[0].thing.Point, l[1].thing.Point))))
}

func (d *desk) touch(l []given) string {
	if got(descartes.Touch(l[0].thing.Disk, l[1].thing.Disk)) {
		return lines("yes")
	}
	return lines("no")
}

func (d *desk) ford(l []given) string {
	over := got(ford.Over(l[0].x))
	return lines(fracText(over.Bend) + blank + got(gauss.Text(over.Mid)) + blank + fracText(over.Co))
}

func (d *desk) best(l []given) string {
	return lines(fracText(got(ford.Best(l[0].x, l[1].number))))
}

func (d *desk) row(l []given) string {
	must(l[0].number <= mostRow, api.ErrLong)
	var told []string
	for x := range ford.Row(l[0].number) {
		told = append(told, fracText(x))
	}
	return lines(told...)
}

func (d *desk) way(l []given) string {
	must(frac.Sign(l[0].x) > 0, api.ErrArg)
	var told []string
	for _, x := range ford.Way(l[0].x) {
		told = append(told, fracText(x))
	}
	return lines(told...)
}

func (d *desk) count(l []given) string {
	return lines(strconv.FormatUint(got(words.Count(l[0].number, l[1].number)), 10))
}

func (d *desk) picture([]given) string { return got(arcs.Text(d.shop.Picture()...)) }

func (d *desk) box([]given) string {
	low, high, e := arcs.Box(d.shop.Picture()...)
	check(e)
	return lines(cplx.Text(low), cplx.Text(high))
}

func (d *desk) keep([]given) string {
	d.kept = d.shop.Copy()
	return lines(done)
}

func (d *desk) restore([]given) string {
	must(d.kept != nil, api.ErrNone)
	d.shop = d.kept.Copy()
	return lines(done)
}

func (d *desk) renew([]given) string {
	d.shop = shop.New()
	return lines(done)
}

// scene does the next lines in a shop of their own.
func (d *desk) scene(l []given) string {
	scene, _, e := script.Parse(d.take(l[0].number))
	check(e)
	told, n, e := shop.New().Run(scene...)
	return lines(strconv.Itoa(n)+blank+strconv.Itoa(int(e))) + lines(told...)
}

// take takes lines away, each with an end. Where there are too few, all are taken
// ahead of that being refused.
func (d *desk) take(n int) string {
	var text strings.Builder
	for range n {
		line, there := d.line()
		must(there, api.ErrArg)
		text.WriteString(line)
		text.WriteByte('\n')
	}
	return text.String()
}

func fracText(x api.Frac) string { return got(frac.Text(x)) }
