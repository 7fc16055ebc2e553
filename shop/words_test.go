package shop_test

import (
	"math/rand"
	"regexp"
	"strconv"
	"strings"

	"tracery/api"
	"tracery/arcs"
	"tracery/chains"
	"tracery/circ"
	"tracery/cross"
	"tracery/descartes"
	"tracery/fcirc"
	"tracery/flips"
	"tracery/frac"
	"tracery/gauss"
	"tracery/group"
	"tracery/hurwitz"
	"tracery/invert"
	"tracery/meet"
	"tracery/mirrors"
	"tracery/mob"
	"tracery/near"
	"tracery/nets"
	"tracery/packing"
	"tracery/plane"
	"tracery/script"
	"tracery/sphere"
	"tracery/tiles"
	"tracery/words"
)

// What follows is a shop by the chapter's words: the things stand one behind the
// other and are looked for from the front, and a statement is held against patterns.

// held is a thing: of what its kind, a letter of the chapter's tables, does not name
// nothing is there.
type held struct {
	name    string
	kind    byte
	point   api.Point
	mob     api.Mob
	circle  api.Circle
	disk    api.Disk
	four    [4]api.Disk
	net     *nets.Net
	mirrors *mirrors.Mirrors
	circles []api.Circle
	sides   []int
}

type model struct {
	list    []held
	picture []api.Arc
}

// patterns of the kinds of a statement's arguments, with the verbs of each.
func patterns() map[string]string {
	l := map[string]string{}
	const p, a, f, count, one = "[rzin]", "[rz]", "r", "[b#]", "n"
	for verbs, pattern := range map[string]string{
		"point home": p, "fourth ratio": p + "{4}", "bring": one + p + count, "map turn": a + "{4}", "send": p + "{6}", "over back tell order draw": one, "then": one + "*", "circle": p + "{3}", "round disk": a + f, "line half": a + "{2}", "mix": one + "{2}" + f + "{2}",
		"member swap pack": one + count, "four": one + "{4}", "knife": f, "flip": one + a + p, "mirrors": "(" + one + "b)*", "image lies meet": one + "{2}", "on": one + p, "far": count + p + "{2}", "quotients": a, "word": "w*", "grow": count + one + "*",
	} {
		for _, v := range strings.Fields(verbs) {
			l[v] = pattern
		}
	}
	return l
}

var patternOf = patterns()

// signs are the kinds of a statement's arguments, a byte each.
func signs(x api.Stmt) string {
	var s strings.Builder
	for _, a := range x.Args {
		switch {
		case a.Kind == api.ArgNumber && frac.Sign(a.Z.Im) == 0:
			s.WriteByte('r')
		case a.Kind == api.ArgCount && a.Count < 2:
			s.WriteByte('b')
		default:
			s.WriteByte(" nziw#"[a.Kind])
		}
	}
	return s.String()
}

func (m *model) fits(x api.Stmt) bool {
	if strings.Contains(" "+makers+" ", " "+x.Verb+" ") != (x.Name != "") {
		return false
	}
	pattern, is := patternOf[x.Verb]
	if x.Verb == "net" {
		n := len(x.Args)
		if n < 3 || x.Args[0].Kind != api.ArgCount || x.Args[1].Kind != api.ArgCount || x.Args[0].Count+x.Args[1].Count != (n-3)/2 || n%2 == 0 {
			return false
		}
		labels := strconv.Itoa((n - 3) / 2)
		pattern, is = "[b#]{2}[rz]{"+labels+"}[rzin]*", true
	}
	return is && regexp.MustCompile("^"+pattern+"$").MatchString(signs(x))
}

func (m *model) find(name string) *held {
	for k := range m.list {
		if m.list[k].name == name {
			return &m.list[k]
		}
	}
	return nil
}

// kindsAt are the kinds of things that may stand at a place, for a name.
func kindsAt(verb string, k int) string {
	switch verb {
	case "then", "grow":
		return "M"
	case "mirrors":
		return "C"
	case "net":
		return "P"
	case "tell", "draw":
		return "PMCDFNG"
	case "image":
		return []string{"M", "PCDFN"}[k]
	}
	return tables[verb][k : k+1]
}

func (m *model) do(x api.Stmt) ([]string, api.Errno) {
	if e := script.Check(x); e != api.OK {
		return nil, e
	}
	if !m.fits(x) {
		return nil, api.ErrVerb
	}
	kind := api.OK
	if x.Name != "" && m.find(x.Name) != nil {
		return nil, api.ErrName
	}
	for k, a := range x.Args {
		if a.Kind != api.ArgName {
			continue
		}
		h := m.find(a.Name)
		if h == nil {
			return nil, api.ErrName
		}
		if strings.IndexByte(kindsAt(x.Verb, k), h.kind) < 0 {
			kind = api.ErrKind
		}
	}
	if kind != api.OK {
		return nil, kind
	}
	if x.Name == "" {
		return m.ask(x)
	}
	if len(m.list) >= api.MaxThings {
		return nil, api.ErrLong
	}
	h, e := m.make(x)
	if e != api.OK {
		return nil, e
	}
	h.name = x.Name
	m.list = append(m.list, h)
	return nil, api.OK
}

func (m *model) point(a api.Arg) api.Point {
	switch a.Kind {
	case api.ArgNumber:
		return api.Point{Z: a.Z}
	case api.ArgInf:
		return api.Point{Inf: true}
	}
	return m.find(a.Name).point
}

func (m *model) points(l ...api.Arg) []api.Point {
	var out []api.Point
	for _, a := range l {
		out = append(out, m.point(a))
	}
	return out
}

func (m *model) maps(l ...api.Arg) []api.Mob {
	var out []api.Mob
	for _, a := range l {
		out = append(out, m.find(a.Name).mob)
	}
	return out
}

func aPoint(p api.Point, e api.Errno) (held, api.Errno)   { return held{kind: 'P', point: p}, e }
func aMap(m api.Mob, e api.Errno) (held, api.Errno)       { return held{kind: 'M', mob: m}, e }
func aCircle(c api.Circle, e api.Errno) (held, api.Errno) { return held{kind: 'C', circle: c}, e }
func aDisk(d api.Disk, e api.Errno) (held, api.Errno)     { return held{kind: 'D', disk: d}, e }
func aFour(f [4]api.Disk, e api.Errno) (held, api.Errno)  { return held{kind: 'F', four: f}, e }
func aNet(n *nets.Net, e api.Errno) (held, api.Errno)     { return held{kind: 'N', net: n}, e }

func (m *model) make(x api.Stmt) (held, api.Errno) {
	l := x.Args
	thing := func(k int) *held { return m.find(l[k].Name) }
	switch x.Verb {
	case "point":
		return aPoint(m.point(l[0]), api.OK)
	case "fourth":
		return aPoint(cross.Fourth(m.point(l[0]), m.point(l[1]), m.point(l[2]), m.point(l[3])))
	case "bring":
		p, _, e := thing(0).mirrors.Bring(m.point(l[1]), l[2].Count)
		return aPoint(p, e)
	case "home":
		h, e := tiles.Home(m.point(l[0]))
		return aPoint(h.Point, e)
	case "map", "turn":
		return aMap(mob.Make(l[0].Z, l[1].Z, l[2].Z, l[3].Z, x.Verb == "turn"))
	case "send":
		p := m.points(l...)
		return aMap(mob.Of([3]api.Point{p[0], p[1], p[2]}, [3]api.Point{p[3], p[4], p[5]}, false))
	case "over":
		return aMap(invert.Over(thing(0).circle))
	case "then":
		return aMap(mob.Compose(m.maps(l...)...))
	case "back":
		return aMap(mob.Inverse(thing(0).mob))
	case "circle":
		return aCircle(circ.Through(m.point(l[0]), m.point(l[1]), m.point(l[2])))
	case "round":
		return aCircle(circ.Round(l[0].Z, l[1].Z.Re))
	case "line":
		return aCircle(circ.Line(l[0].Z, l[1].Z))
	case "mix":
		return aCircle(meet.Mix(thing(0).circle, thing(1).circle, l[2].Z.Re, l[3].Z.Re))
	case "disk":
		return aDisk(descartes.Round(l[0].Z, l[1].Z.Re))
	case "half":
		return aDisk(descartes.Half(l[0].Z, l[1].Z))
	case "member":
		return aDisk(chains.At(thing(0).four, l[1].Count))
	case "four":
		f := [4]api.Disk{thing(0).disk, thing(1).disk, thing(2).disk, thing(3).disk}
		if touch, _ := descartes.Touch(f[0], f[1], f[2], f[3]); !touch {
			return held{}, api.ErrTouch
		}
		return aFour(f, api.OK)
	case "swap":
		return aFour(descartes.Swap(thing(0).four, l[1].Count))
	case "knife":
		return aFour(chains.Knife(l[0].Z.Re))
	case "flip":
		return aNet(flips.Flip(thing(0).net, l[1].Z, m.point(l[2])))
	case "net":
		return m.makeNet(l)
	case "mirrors":
		h := held{kind: 'G'}
		for k := range len(l) / 2 {
			h.circles, h.sides = append(h.circles, thing(2*k).circle), append(h.sides, []int{-1, 1}[l[2*k+1].Count])
		}
		var e api.Errno
		h.mirrors, e = mirrors.New(h.circles, h.sides)
		return h, e
	}
	return m.image(thing(0).mob, thing(1))
}

func (m *model) makeNet(l []api.Arg) (held, api.Errno) {
	w, h := l[0].Count, l[1].Count
	l = l[2:]
	var s api.NetSides
	for k := range w + h {
		if k < w {
			s.A = append(s.A, l[k].Z)
		} else {
			s.B = append(s.B, l[k].Z)
		}
	}
	p := m.points(l[w+h:]...)
	s.Row, s.Column = p[:w+1:w+1], append(p[:1:1], p[w+1:]...)
	return aNet(nets.New(s))
}

func (m *model) image(by api.Mob, h *held) (held, api.Errno) {
	switch h.kind {
	case 'P':
		return aPoint(mob.At(by, h.point))
	case 'C':
		return aCircle(circ.Image(by, h.circle))
	case 'D':
		return aDisk(descartes.Image(by, h.disk))
	case 'F':
		return aFour(chains.Carry(by, h.four))
	}
	return aNet(h.net.Image(by))
}

func (m *model) ask(x api.Stmt) ([]string, api.Errno) {
	l := x.Args
	thing := func(k int) *held { return m.find(l[k].Name) }
	told := func(s string, e api.Errno) ([]string, api.Errno) {
		if e != api.OK {
			return nil, e
		}
		return []string{s}, api.OK
	}
	switch x.Verb {
	case "tell":
		return thing(0).text(), api.OK
	case "ratio":
		p, e := cross.Ratio(m.point(l[0]), m.point(l[1]), m.point(l[2]), m.point(l[3]))
		return told(pointOf(p), e)
	case "on":
		is, e := circ.On(thing(0).circle, m.point(l[1]))
		return told(map[bool]string{true: "yes", false: "no"}[is], e)
	case "lies":
		how, e := meet.Lies(thing(0).circle, thing(1).circle)
		return told([]string{"same", "touching", "crossing", "apart"}[how], e)
	case "meet":
		var out []string
		points, e := meet.Points(thing(0).circle, thing(1).circle)
		for _, p := range points {
			out = append(out, pointOf(p))
		}
		return out, e
	case "far":
		p, q := m.point(l[1]), m.point(l[2])
		if l[0].Count != 1 && l[0].Count != 2 {
			return nil, api.ErrArg
		}
		if p.Inf || q.Inf {
			return nil, api.ErrOut
		}
		x, e := plane.Far(api.Picture(l[0].Count), p.Z, q.Z)
		return told(fracText(x), e)
	case "order":
		n, e := mob.Order(thing(0).mob)
		return told(strconv.Itoa(n), e)
	case "pack":
		var out []string
		packed, e := packing.All(thing(0).four, l[1].Count)
		for _, p := range packed {
			out = append(out, fracText(p.Disk.Bend))
		}
		return out, e
	case "quotients":
		var out []string
		for q := range hurwitz.Quotients(l[0].Z) {
			out = append(out, pointOf(api.Point{Z: q}))
		}
		return out, api.OK
	case "word":
		var lists [][]int
		for _, a := range l {
			lists = append(lists, a.Word)
		}
		w, e := words.Mul(lists...)
		s, _ := words.Text(w...)
		return told(s, e)
	case "grow":
		g, e := group.New(m.maps(l[1:]...)...)
		if e == api.OK {
			e = g.Grow(l[0].Count)
		}
		return told(strconv.Itoa(g.Len()), e)
	}
	drawn, e := thing(0).drawn()
	if e == api.OK && len(m.picture)+len(drawn) > api.MaxList {
		e = api.ErrLong
	}
	if e == api.OK {
		m.picture = append(m.picture, drawn...)
	}
	return told(strconv.Itoa(len(drawn)), e)
}

func fracText(x api.Frac) string {
	s, _ := frac.Text(x)
	return s
}

func pointOf(p api.Point) string {
	s, _ := sphere.Text(p)
	return s
}

func diskOf(d api.Disk) string {
	mid, _ := gauss.Text(d.Mid)
	return fracText(d.Bend) + " " + mid + " " + fracText(d.Co)
}

func (h *held) text() []string {
	var l []string
	s := ""
	switch h.kind {
	case 'P':
		s = pointOf(h.point)
	case 'M':
		s, _ = mob.Text(h.mob)
	case 'C':
		s, _ = circ.Text(h.circle)
	case 'D':
		s = diskOf(h.disk)
	case 'F':
		for _, d := range h.four {
			l = append(l, diskOf(d))
		}
		return l
	case 'N':
		w, rows := h.net.Size()
		for j := range rows + 1 {
			p, _ := h.net.At(0, j)
			s := pointOf(p)
			for i := 1; i <= w; i++ {
				p, _ := h.net.At(i, j)
				s += " " + pointOf(p)
			}
			l = append(l, s)
		}
		return l
	case 'G':
		for k, c := range h.circles {
			s, _ := circ.Text(c)
			l = append(l, s+map[int]string{1: " 1", -1: " -1"}[h.sides[k]])
		}
		return l
	}
	return []string{s}
}

func (h *held) thing() api.Thing {
	x := api.Thing{Kind: api.ThingKind(strings.IndexByte("PMCDFNG", h.kind) + 1), Point: h.point, Map: h.mob, Circle: h.circle, Disk: h.disk, Four: h.four}
	if h.kind == 'N' {
		x.Net, _ = h.net.Sides()
	}
	return x
}

func (h *held) drawn() ([]api.Arc, api.Errno) {
	var disks []api.Disk
	circles := h.circles
	switch h.kind {
	case 'C':
		circles = []api.Circle{h.circle}
	case 'D':
		disks = []api.Disk{h.disk}
	case 'F':
		disks = h.four[:]
	case 'N':
		return h.netDrawn()
	}
	var l []api.Arc
	for k := range len(circles) + len(disks) {
		var c api.Circle
		e := api.OK
		if k < len(circles) {
			c = circles[k]
		} else if c, e = descartes.Edge(disks[k]); e != api.OK {
			return nil, e
		}
		if frac.Sign(c.A) == 0 {
			continue
		}
		f, e := fcirc.Of(c)
		if e != api.OK {
			return nil, e
		}
		a, e := arcs.Round(f)
		if e != api.OK {
			return nil, e
		}
		l = append(l, a)
	}
	return l, api.OK
}

func (h *held) netDrawn() ([]api.Arc, api.Errno) {
	var l []api.Arc
	w, rows := h.net.Size()
	for j := range rows + 1 {
		for i := range w + 1 {
			p, _ := h.net.At(i, j)
			right, e := h.net.At(i+1, j)
			above, f := h.net.At(i, j+1)
			for k, q := range []api.Point{right, above} {
				if p.Inf || q.Inf || []api.Errno{e, f}[k] != api.OK {
					continue
				}
				from, e := near.Complex(p.Z)
				to, f := near.Complex(q.Z)
				if e != api.OK || f != api.OK {
					return nil, api.ErrFloat
				}
				l = append(l, api.Arc{Kind: api.ArcStraight, From: from, To: to})
			}
		}
	}
	return l, api.OK
}

// anyArg is an argument for a letter of the chapter's tables.
func (m *model) anyArg(r *rand.Rand, letter byte) api.Arg {
	part := func() api.Frac {
		x, _ := frac.Small(r.Int63n(9)-4, 1+r.Int63n(3))
		return x
	}
	switch letter {
	case 'a':
		if r.Intn(3) == 0 {
			return along(part())
		}
		return number(part(), part())
	case 'f':
		return along(part())
	case '#':
		return count(r.Intn(4) + r.Intn(2)*r.Intn(2)*r.Intn(6000))
	case 'S':
		return count(r.Intn(2))
	case 'W':
		w := make([]int, r.Intn(5))
		for k := range w {
			w[k] = (1 + r.Intn(3)) * (2*r.Intn(2) - 1)
		}
		if r.Intn(8) == 0 {
			w = append(w, 65)
		}
		return word(w...)
	case 'P':
		if n := r.Intn(5); n == 0 {
			return inf()
		} else if n < 3 {
			return m.anyArg(r, 'a')
		}
	case 'X':
		letter = "PMCDFNG"[r.Intn(7)]
	case 'I':
		letter = "PCDFN"[r.Intn(5)]
	}
	var of []string
	for _, h := range m.list {
		if h.kind == letter {
			of = append(of, h.name)
		}
	}
	if len(of) == 0 {
		return named("nobody")
	}
	return named(of[r.Intn(len(of))])
}

// anyStmt is a statement that mostly goes well.
func (m *model) anyStmt(r *rand.Rand, name string) api.Stmt {
	verbs := strings.Fields(makers + " " + askers)
	at := r.Intn(len(verbs))
	x := api.Stmt{Verb: verbs[at]}
	if at < len(strings.Fields(makers)) {
		x.Name = name
	}
	letters := tables[x.Verb]
	n := r.Intn(4)
	switch x.Verb {
	case "then":
		letters = strings.Repeat("M", n)
	case "grow":
		letters = "#" + strings.Repeat("M", n)
	case "word":
		letters = strings.Repeat("W", n)
	case "mirrors":
		letters = strings.Repeat("CS", n)
	case "net":
		w := 1 + r.Intn(3)
		letters = strings.Repeat("a", w+n) + strings.Repeat("P", w+n+1)
		x.Args = []api.Arg{count(w), count(n)}
	}
	for _, c := range []byte(letters) {
		x.Args = append(x.Args, m.anyArg(r, c))
	}
	switch {
	case x.Verb == "grow":
		x.Args[0].Count %= 4
	case x.Verb == "far" && n > 0: // within both pictures, and at their edges
		x.Args[0] = count(1 + r.Intn(2))
		x.Args[n%2+1] = named("deep")
		x.Args[2-n%2] = number(fracOf(r.Int63n(5)-2, 3), fracOf(r.Int63n(4), 3))
	}
	return m.spoilt(r, x, letters)
}

// spoilt is the statement, now and then with something else at one or two places.
func (m *model) spoilt(r *rand.Rand, x api.Stmt, letters string) api.Stmt {
	args := anyArgs()
	for range max(0, r.Intn(12)-9) {
		switch k := r.Intn(6); {
		case k == 0 && len(x.Args) > 0:
			x.Args[r.Intn(len(x.Args))] = args[r.Intn(len(args))]
		case k == 1 && len(x.Args) > 0:
			x.Args = x.Args[:len(x.Args)-1]
		case k == 2:
			x.Args = append(x.Args, args[r.Intn(len(args))])
		case k == 3 && len(m.list) > 0:
			x.Name = m.list[r.Intn(len(m.list))].name
		case k == 4 && len(x.Args) > 0:
			x.Args[r.Intn(len(x.Args))] = m.anyArg(r, 'X')
		case k == 5 && r.Intn(4) == 0:
			x.Verb = []string{"fly", "Fly", "tell", "point"}[r.Intn(4)]
		}
	}
	return x
}
