package arcs_test

import (
	"fmt"
	"math"
	"regexp"
	"slices"
	"strconv"
	"strings"

	"tracery/api"
)

// The chapter's promises, word by word.

// mayBeOf: the section 'Words'.
func mayBeOf(a api.Arc) bool {
	named := map[api.ArcKind][]int{
		api.ArcStraight: {0, 1, 2, 3},
		api.ArcRound:    {4, 5, 6},
		api.ArcBow:      {0, 1, 2, 3, 4, 5, 6},
	}[a.Kind]
	if named == nil || a.Left && a.Kind != api.ArcBow {
		return false
	}
	for k, x := range partsOf(a) {
		if !slices.Contains(named, k) && bits(x) != 0 {
			return false
		}
		if slices.Contains(named, k) && !isFinite(x) {
			return false
		}
	}
	return !slices.Contains(named, 6) || isAbove(a.Radius)
}

// straightOf, roundOf, ringOf: P29.1.
func straightOf(p, q complex128) (api.Arc, api.Errno) {
	if !areFinite(p, q) {
		return api.Arc{}, api.ErrFloat
	}
	return straight(p, q), api.OK
}

func roundOf(f api.FCircle) (api.Arc, api.Errno) {
	z, e := centreOf(f)
	x, d := radiusOf(f)
	if e == api.ErrFloat || d == api.ErrFloat || e == api.OK && !areFinite(z) || d == api.OK && !isFinite(x) {
		return api.Arc{}, api.ErrFloat
	}
	if e != api.OK || d != api.OK || isNought(x) {
		return api.Arc{}, api.ErrNone
	}
	return round(z, x), api.OK
}

func ringOf(a api.Arc) (api.FCircle, api.Errno) {
	if !mayBeOf(a) {
		return api.FCircle{}, api.ErrArg
	}
	if a.Kind == api.ArcStraight {
		return api.FCircle{}, api.ErrNone
	}
	c := minus(squareOf(a.Centre), times(a.Radius, a.Radius))
	if !isFinite(c) {
		return api.FCircle{}, api.ErrFloat
	}
	return circle(1, negativeOf(conjugateOf(a.Centre)), c), api.OK
}

// arcThrough: P29.2.
func arcThrough(p, q, r complex128) (api.Arc, api.Errno) {
	if !areFinite(p, q, r) {
		return api.Arc{}, api.ErrFloat
	}
	f, e := circleThrough(p, q, r)
	if e != api.OK {
		return api.Arc{}, api.ErrNone
	}
	if isNought(f.A) {
		return straight(p, r), api.OK
	}
	z, e := centreOf(f)
	x, d := radiusOf(f)
	if e != api.OK || d != api.OK {
		return api.Arc{}, api.ErrNone
	}
	if !areFinite(z) || !isFinite(x) {
		return api.Arc{}, api.ErrFloat
	}
	if isNought(x) {
		return api.Arc{}, api.ErrNone
	}
	return bow(p, r, z, x, isAbove(crossOf(differenceOf(q, p), differenceOf(r, q)))), api.OK
}

// middleOf: P29.3.
func middleOf(a api.Arc) (complex128, api.Errno) {
	if !mayBeOf(a) {
		return 0, api.ErrArg
	}
	var m complex128
	switch a.Kind {
	case api.ArcStraight:
		m = scaledOf(sumOf(a.From, a.To), 0.5)
	case api.ArcRound:
		m = sumOf(a.Centre, complex(opposite(a.Radius), 0))
	case api.ArcBow:
		n := differenceOf(a.To, a.From)
		if isNought(real(n)) && isNought(imag(n)) {
			return 0, api.ErrNone
		}
		turned := turnedOf(n)
		if a.Left {
			turned = negativeOf(turnedOf(n))
		}
		m = sumOf(a.Centre, scaledOf(turned, over(a.Radius, lengthOf(n))))
	}
	if !areFinite(m) {
		return 0, api.ErrFloat
	}
	return m, api.OK
}

func rightOf(a api.Arc) complex128 { return sumOf(a.Centre, complex(a.Radius, 0)) }

// halvesOf, pointsOf, backOf: P29.4.
func halvesOf(a api.Arc) (api.Arc, api.Arc, api.Errno) {
	m, e := middleOf(a)
	if e == api.OK && a.Kind == api.ArcRound && !areFinite(rightOf(a)) {
		e = api.ErrFloat
	}
	if e != api.OK {
		return api.Arc{}, api.Arc{}, e
	}
	switch a.Kind {
	case api.ArcStraight:
		return straight(a.From, m), straight(m, a.To), api.OK
	case api.ArcRound:
		return bow(rightOf(a), m, a.Centre, a.Radius, true), bow(m, rightOf(a), a.Centre, a.Radius, true), api.OK
	}
	return bow(a.From, m, a.Centre, a.Radius, a.Left), bow(m, a.To, a.Centre, a.Radius, a.Left), api.OK
}

func piecesOf(a api.Arc, depth int) []api.Arc {
	if depth > 0 {
		if x, y, e := halvesOf(a); e == api.OK {
			return append(piecesOf(x, depth-1), piecesOf(y, depth-1)...)
		}
	}
	return []api.Arc{a}
}

func pointsOf(a api.Arc, depth int) []complex128 {
	var l []complex128
	var end complex128
	for _, p := range piecesOf(a, depth) {
		if p.Kind == api.ArcRound {
			l, end = append(l, rightOf(p)), rightOf(p)
		} else {
			l, end = append(l, p.From), p.To
		}
	}
	return append(l, end)
}

func backOf(a api.Arc) (api.Arc, api.Errno) {
	switch {
	case !mayBeOf(a):
		return api.Arc{}, api.ErrArg
	case a.Kind == api.ArcStraight:
		return straight(a.To, a.From), api.OK
	case a.Kind == api.ArcBow:
		return bow(a.To, a.From, a.Centre, a.Radius, !a.Left), api.OK
	}
	return a, api.OK
}

// imageOf, imagesOf: P29.5.
func mapMayBe(m api.FMob) bool { return areFinite(m.A, m.B, m.C, m.D) }

func imageOf(m api.FMob, a api.Arc) (api.Arc, api.Errno) {
	if !mayBeOf(a) {
		return api.Arc{}, api.ErrArg
	}
	if !mapMayBe(m) {
		return api.Arc{}, api.ErrFloat
	}
	if a.Kind == api.ArcRound {
		f, e := ringOf(a)
		if e != api.OK {
			return api.Arc{}, e
		}
		return roundOf(circleImage(m, f))
	}
	z, e := middleOf(a)
	if e != api.OK {
		return api.Arc{}, e
	}
	p, one := atOf(m, a.From)
	q, two := atOf(m, z)
	r, three := atOf(m, a.To)
	if one || two || three {
		return api.Arc{}, api.ErrNone
	}
	return arcThrough(p, q, r)
}

func listError(l []api.Arc) api.Errno {
	for _, a := range l {
		if !mayBeOf(a) {
			return api.ErrArg
		}
	}
	if len(l) > 4096 {
		return api.ErrLong
	}
	return api.OK
}

func imagesOf(m api.FMob, l []api.Arc) ([]api.Arc, api.Errno) {
	if e := listError(l); e != api.OK {
		return nil, e
	}
	if !mapMayBe(m) {
		return nil, api.ErrFloat
	}
	var out []api.Arc
	for _, a := range l {
		if b, e := imageOf(m, a); e == api.OK {
			out = append(out, b)
		}
	}
	return out, api.OK
}

// cornersOf, boxOf: P29.6.
func cornersOf(a api.Arc) []complex128 {
	var four []complex128
	for _, w := range []complex128{complex(a.Radius, 0), complex(0, a.Radius), complex(opposite(a.Radius), 0), complex(0, opposite(a.Radius))} {
		four = append(four, sumOf(a.Centre, w))
	}
	switch a.Kind {
	case api.ArcStraight:
		return []complex128{a.From, a.To}
	case api.ArcRound:
		return four
	}
	l := []complex128{a.From, a.To}
	for _, e := range four {
		d := crossOf(differenceOf(a.To, a.From), differenceOf(e, a.From))
		if isBelow(d) && a.Left || isAbove(d) && !a.Left {
			l = append(l, e)
		}
	}
	return l
}

func boxOf(l []api.Arc) (low, high complex128, e api.Errno) {
	if e := listError(l); e != api.OK {
		return 0, 0, e
	}
	if len(l) == 0 {
		return 0, 0, api.ErrNone
	}
	var all []complex128
	for _, a := range l {
		all = append(all, cornersOf(a)...)
	}
	if !areFinite(all...) {
		return 0, 0, api.ErrFloat
	}
	least := func(part func(k int) float64) float64 {
		at := 0
		for k := range all {
			if part(k) < part(at) {
				at = k
			}
		}
		return part(at)
	}
	re := func(k int) float64 { return real(all[k]) }
	im := func(k int) float64 { return imag(all[k]) }
	// The greatest one is the least one's opposite, of opposites.
	low = complex(least(re), least(im))
	high = complex(
		opposite(least(func(k int) float64 { return opposite(re(k)) })),
		opposite(least(func(k int) float64 { return opposite(im(k)) })))
	return low, high, api.OK
}

// textOf, readOf: P29.7.
func numberText(z complex128) string { return fmt.Sprintf("%016x,%016x", bits(real(z)), bits(imag(z))) }

// textOf is for arcs that may be.
func textOf(l ...api.Arc) string {
	var out strings.Builder
	for _, a := range l {
		switch a.Kind {
		case api.ArcStraight:
			fmt.Fprintf(&out, "straight %s %s", numberText(a.From), numberText(a.To))
		case api.ArcRound:
			fmt.Fprintf(&out, "round %s %016x", numberText(a.Centre), bits(a.Radius))
		case api.ArcBow:
			fmt.Fprintf(&out, "bow %s %s %s %016x ", numberText(a.From), numberText(a.To), numberText(a.Centre), bits(a.Radius))
			out.WriteString(map[bool]string{true: "left", false: "right"}[a.Left])
		}
		out.WriteByte(10)
	}
	return out.String()
}

var form = regexp.MustCompile(strings.NewReplacer("N", "[0-9a-f]{16},[0-9a-f]{16}", "R", "[0-9a-f]{16}").Replace(
	`\A(?:(straight) (N) (N)|(round) (N) (R)|(bow) (N) (N) (N) (R) (left|right))\z`))

func readOf(s string) ([]api.Arc, api.Errno) {
	lines := strings.SplitAfter(s, "\n")
	if lines[len(lines)-1] == "" {
		lines = lines[:len(lines)-1]
	}
	if len(s) > 1<<20 || len(lines) > 4096 {
		return nil, api.ErrLong
	}
	var l []api.Arc
	for _, text := range lines {
		text, ended := strings.CutSuffix(text, "\n")
		m := form.FindStringSubmatch(text)
		if !ended || m == nil {
			return nil, api.ErrArc
		}
		m = slices.DeleteFunc(m[1:], func(s string) bool { return s == "" })
		a := arcOfWords(m)
		if !mayBeOf(a) {
			return nil, api.ErrArc
		}
		l = append(l, a)
	}
	return l, api.OK
}

func arcOfWords(m []string) api.Arc {
	float := func(s string) float64 {
		n, err := strconv.ParseUint(s, 16, 64)
		if err != nil {
			panic(err)
		}
		return math.Float64frombits(n)
	}
	number := func(s string) complex128 { return complex(float(s[:16]), float(s[17:])) }
	switch m[0] {
	case "straight":
		return straight(number(m[1]), number(m[2]))
	case "round":
		return round(number(m[1]), float(m[2]))
	}
	return bow(number(m[1]), number(m[2]), number(m[3]), float(m[4]), m[5] == "left")
}
