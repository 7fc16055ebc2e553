package console_test

import (
	"fmt"
	"math/big"
	"regexp"
	"slices"
	"strconv"
	"strings"

	"tracery/api"
	"tracery/arcs"
	"tracery/circ"
	"tracery/cplx"
	"tracery/fixed"
	"tracery/ford"
	"tracery/frac"
	"tracery/gauss"
	"tracery/script"
	"tracery/shop"
	"tracery/sphere"
)

// What follows is a desk by the chapter's words: all lines stand in a list, words are
// held against patterns, and numbers are reckoned by math/big.

type model struct {
	shop, kept *shop.Shop
	lines      []string
	next       int
}

var (
	wordPattern   = regexp.MustCompile(`[^ ]+`)
	namePattern   = regexp.MustCompile(`\A[a-z][a-z0-9-]{0,31}\z`)
	numberPattern = regexp.MustCompile(`\A(0|[1-9][0-9]{0,8})\z`)
	fracPattern   = regexp.MustCompile(`\A(0|-?[1-9][0-9]*(/[1-9][0-9]*)?)\z`)
)

// modelRun is what the chapter says that a text answers.
func modelRun(text string) string {
	m := &model{shop: shop.New(), lines: strings.Split(text, "\n")}
	if last := len(m.lines) - 1; m.lines[last] == "" {
		m.lines = m.lines[:last]
	}
	var told strings.Builder
	for m.next < len(m.lines) {
		line := m.lines[m.next]
		m.next++
		words := wordPattern.FindAllString(line, -1)
		if words == nil {
			continue
		}
		answer, e := m.order(line, words)
		if e != api.OK {
			answer = []string{fmt.Sprintf("error %d", e)}
		}
		told.WriteString(ended(answer...))
	}
	return told.String()
}

func (m *model) order(line string, words []string) ([]string, api.Errno) {
	made := slices.Contains(strings.Fields(makes), words[0])
	if made || slices.Contains(strings.Fields(asks), words[0]) {
		x, e := script.Read(line)
		if e != api.OK {
			return nil, api.ErrLine
		}
		told, e := m.shop.Do(x)
		if made && e == api.OK {
			told = []string{"ok"}
		}
		return told, e
	}
	letters, is := tableOf()[words[0]]
	if !is || len(letters) != len(words)-1 {
		return nil, api.ErrArg
	}
	for k, w := range words[1:] {
		if !may(letters[k], w) {
			return nil, api.ErrArg
		}
	}
	if words[0] == "scene" {
		return m.scene(number(words[1]))
	}
	things, e := m.things(letters, words[1:])
	if e != api.OK {
		return nil, e
	}
	return m.answer(words[0], things, words[1:])
}

func may(letter byte, word string) bool {
	switch letter {
	case '#':
		return numberPattern.MatchString(word)
	case 'x':
		if !fracPattern.MatchString(word) {
			return false
		}
		x, _ := new(big.Rat).SetString(word)
		return x.RatString() == word && len(x.Num().Bytes()) <= api.MaxWhole && len(x.Denom().Bytes()) <= api.MaxWhole
	}
	return namePattern.MatchString(word)
}

func (m *model) things(letters string, names []string) ([]api.Thing, api.Errno) {
	var l []api.Thing
	for k, name := range names {
		if strings.IndexByte("x#", letters[k]) >= 0 {
			continue
		}
		x, e := m.shop.Thing(name)
		if e != api.OK {
			return nil, api.ErrName
		}
		l = append(l, x)
	}
	for k, x := range l {
		if letters[k] != 'X' && "?PMCDFNG"[x.Kind] != letters[k] {
			return nil, api.ErrKind
		}
	}
	return l, api.OK
}

func (m *model) scene(n int) ([]string, api.Errno) {
	behind := m.lines[m.next:]
	if n > len(behind) {
		m.next = len(m.lines)
		return nil, api.ErrArg
	}
	m.next += n
	scene, _, e := script.Parse(ended(behind[:n]...))
	if e != api.OK {
		return nil, e
	}
	told, done, e := shop.New().Run(scene...)
	return append([]string{fmt.Sprintf("%d %d", done, int(e))}, told...), api.OK
}

func (m *model) answer(order string, l []api.Thing, words []string) ([]string, api.Errno) {
	switch order {
	case "keep":
		m.kept = m.shop.Copy()
		return []string{"ok"}, api.OK
	case "new":
		m.shop = shop.New()
		return []string{"ok"}, api.OK
	case "restore":
		if m.kept == nil {
			return nil, api.ErrNone
		}
		m.shop = m.kept.Copy()
		return []string{"ok"}, api.OK
	case "things":
		var told []string
		for name, kind := range m.shop.All() {
			told = append(told, fmt.Sprint(name, " ", int(kind)))
		}
		return told, api.OK
	case "show":
		return m.shop.Text(words[0])
	case "picture":
		text, e := arcs.Text(m.shop.Picture()...)
		return strings.FieldsFunc(text, func(c rune) bool { return c == 10 }), e
	case "box":
		low, high, e := arcs.Box(m.shop.Picture()...)
		return []string{cplx.Text(low), cplx.Text(high)}, e
	case "ford", "best", "row", "way", "count":
		return ofNumbers(order, words)
	}
	return ofThings(order, l)
}

func ofThings(order string, l []api.Thing) ([]string, api.Errno) {
	switch order {
	case "near":
		return nearOf(l[0].Point)
	case "kind":
		kind, _ := fixed.Kind(l[0].Map)
		n, e := fixed.Order(l[0].Map)
		return []string{fmt.Sprint(int(kind), n)}, e
	case "stay":
		points, e := fixed.Points(l[0].Map)
		var told []string
		for _, p := range points {
			told = append(told, textOf(sphere.Text(p)))
		}
		return told, e
	case "centre":
		centre, e := circ.Centre(l[0].Circle)
		power, f := circ.Power(l[0].Circle)
		if e != api.OK || f != api.OK {
			return nil, max(e, f)
		}
		return []string{textOf(sphere.Text(centre)) + " " + textOf(frac.Text(power))}, api.OK
	case "chord":
		return chordOf(l[0].Point, l[1].Point)
	}
	return touchOf(l[0].Disk, l[1].Disk), api.OK
}

// textOf is a text that there is.
func textOf(s string, e api.Errno) string {
	if e != api.OK {
		panic(e)
	}
	return s
}

func number(word string) int {
	n, e := strconv.Atoi(word)
	if e != nil {
		panic(e)
	}
	return n
}

func ratOf(x api.Frac) *big.Rat {
	num, den := new(big.Int).SetBytes([]byte(x.Num.Mag)), new(big.Int).SetBytes([]byte(x.Den.Mag))
	if x.Num.Neg {
		num.Neg(num)
	}
	return new(big.Rat).SetFrac(num, den)
}

func plus(x, y *big.Rat) *big.Rat  { return new(big.Rat).Add(x, y) }
func minus(x, y *big.Rat) *big.Rat { return new(big.Rat).Sub(x, y) }
func times(x, y *big.Rat) *big.Rat { return new(big.Rat).Mul(x, y) }

func told(x *big.Rat) ([]string, api.Errno) {
	if len(x.Num().Bytes()) > api.MaxWhole || len(x.Denom().Bytes()) > api.MaxWhole {
		return nil, api.ErrBig
	}
	return []string{x.RatString()}, api.OK
}

func nearOf(p api.Point) ([]string, api.Errno) {
	if p.Inf {
		return []string{"inf"}, api.OK
	}
	re, fine := floatOf(p.Z.Re)
	im, also := floatOf(p.Z.Im)
	if !fine || !also {
		return nil, api.ErrFloat
	}
	return []string{cplx.Text(complex(re, im))}, api.OK
}

func floatOf(x api.Frac) (float64, bool) {
	f, _ := ratOf(x).Float64()
	return f + 0, f-f == 0 // -0 is +0 behind it
}

// normOf is |z|^2.
func normOf(z api.Gauss) *big.Rat {
	re, im := ratOf(z.Re), ratOf(z.Im)
	return plus(times(re, re), times(im, im))
}

func chordOf(p, q api.Point) ([]string, api.Errno) {
	one, four := big.NewRat(1, 1), big.NewRat(4, 1)
	switch {
	case p.Inf && q.Inf:
		return []string{"0"}, api.OK
	case p.Inf:
		return chordOf(q, p)
	case q.Inf:
		return told(new(big.Rat).Quo(four, plus(normOf(p.Z), one)))
	}
	re, im := minus(ratOf(p.Z.Re), ratOf(q.Z.Re)), minus(ratOf(p.Z.Im), ratOf(q.Z.Im))
	far := plus(times(re, re), times(im, im))
	return told(new(big.Rat).Quo(times(four, far), times(plus(normOf(p.Z), one), plus(normOf(q.Z), one))))
}

func touchOf(a, b api.Disk) []string {
	halves := times(big.NewRat(1, 2), plus(times(ratOf(a.Bend), ratOf(b.Co)), times(ratOf(b.Bend), ratOf(a.Co))))
	product := minus(halves, plus(times(ratOf(a.Mid.Re), ratOf(b.Mid.Re)), times(ratOf(a.Mid.Im), ratOf(b.Mid.Im))))
	turned := true
	for k, x := range []api.Frac{a.Bend, a.Mid.Re, a.Mid.Im, a.Co} {
		y := []api.Frac{b.Bend, b.Mid.Re, b.Mid.Im, b.Co}[k]
		turned = turned && plus(ratOf(x), ratOf(y)).Sign() == 0
	}
	if product.Cmp(big.NewRat(1, 1)) == 0 && !turned {
		return []string{"yes"}
	}
	return []string{"no"}
}

func ofNumbers(order string, words []string) ([]string, api.Errno) {
	switch order {
	case "row":
		return rowOf(number(words[0]))
	case "count":
		return countOf(number(words[0]), number(words[1]))
	}
	x, _ := new(big.Rat).SetString(words[0])
	switch order {
	case "ford":
		return diskOver(x)
	case "way":
		return wayTo(x)
	}
	y, _ := frac.Read(words[0])
	best, e := ford.Best(y, number(words[1]))
	if e != api.OK {
		return nil, e
	}
	return told(ratOf(best))
}

func diskOver(x *big.Rat) ([]string, api.Errno) {
	p, q, two := new(big.Rat).SetInt(x.Num()), new(big.Rat).SetInt(x.Denom()), big.NewRat(2, 1)
	var l []string
	for _, n := range []*big.Rat{times(two, times(q, q)), times(two, times(p, q)), times(two, times(p, p))} {
		text, e := told(n)
		if e != api.OK {
			return nil, e
		}
		l = append(l, text...)
	}
	re, _ := frac.Read(l[1])
	return []string{l[0] + " " + textOf(gauss.Text(api.Gauss{Re: re, Im: frac.Int(1)})) + " " + l[2]}, api.OK
}

// rowOf sorts all fractions from 0 to 1 with so small a number below.
func rowOf(n int) ([]string, api.Errno) {
	if n > 50 {
		return nil, api.ErrLong
	}
	var l []*big.Rat
	for q := 1; q <= n; q++ {
		for p := range q + 1 {
			l = append(l, big.NewRat(int64(p), int64(q)))
		}
	}
	slices.SortFunc(l, (*big.Rat).Cmp)
	l = slices.CompactFunc(l, func(x, y *big.Rat) bool { return x.Cmp(y) == 0 })
	var texts []string
	for _, x := range l {
		texts = append(texts, x.RatString())
	}
	return texts, api.OK
}

// wayTo goes between two fractions, of their numbers as they stand.
func wayTo(x *big.Rat) ([]string, api.Errno) {
	if x.Sign() <= 0 {
		return nil, api.ErrArg
	}
	low, high := [2]*big.Int{big.NewInt(0), big.NewInt(1)}, [2]*big.Int{big.NewInt(1), big.NewInt(0)}
	var l []string
	for len(l) < api.MaxList {
		m := [2]*big.Int{new(big.Int).Add(low[0], high[0]), new(big.Int).Add(low[1], high[1])}
		y := new(big.Rat).SetFrac(m[0], m[1])
		l = append(l, y.RatString())
		switch x.Cmp(y) {
		case 0:
			return l, api.OK
		case -1:
			high = m
		case 1:
			low = m
		}
	}
	return l, api.OK
}

// countOf is 1 of no letters, else 2 k (2 k - 1) to the power n - 1.
func countOf(k, n int) ([]string, api.Errno) {
	if k < 1 || k > api.MaxMaps {
		return nil, api.ErrArg
	}
	if n == 0 {
		return []string{"1"}, api.OK
	}
	all := big.NewInt(int64(2 * k))
	for range min(n-1, 64*min(1, k-1)) { // of one letter nothing more comes; of more 2 to the power 64 is passed by then
		all.Mul(all, big.NewInt(int64(2*k-1)))
	}
	if all.BitLen() > 64 {
		return nil, api.ErrBig
	}
	return []string{all.String()}, api.OK
}
