package group_test

import (
	"math/big"
	"slices"
	"strings"
	"testing"

	"tracery/api"
	"tracery/group"
)

// whole, bigOf and fraction go by the document's words and math/big, not by the
// packages that are tested.
func whole(n *big.Int) api.Whole { return api.Whole{Neg: n.Sign() < 0, Mag: string(n.Bytes())} }

func small(n int64) api.Whole { return whole(big.NewInt(n)) }

func fraction(r *big.Rat) api.Frac { return api.Frac{Num: whole(r.Num()), Den: whole(r.Denom())} }

func over(num, den int64) api.Frac { return fraction(big.NewRat(num, den)) }

func ofInt(n *big.Int) *big.Rat { return new(big.Rat).SetInt(n) }

func under(n *big.Int) *big.Rat { return new(big.Rat).SetFrac(big.NewInt(1), n) }

func plus(x, y *big.Rat) *big.Rat { return new(big.Rat).Add(x, y) }

func times(x, y *big.Rat) *big.Rat { return new(big.Rat).Mul(x, y) }

func opposite(x *big.Rat) *big.Rat { return new(big.Rat).Neg(x) }

func upTo(x *big.Rat) bool {
	return len(x.Num().Bytes()) <= api.MaxWhole && len(x.Denom().Bytes()) <= api.MaxWhole
}

// top is the greatest number of a fraction, 256 to the power 1024 less 1; past
// is the next one.
func top() *big.Int { return new(big.Int).Sub(past(), big.NewInt(1)) }

func past() *big.Int { return new(big.Int).Lsh(big.NewInt(1), 8*api.MaxWhole) }

// share is the greatest number that can be had n times, and no more often.
func share(n int64) *big.Int { return new(big.Int).Div(top(), big.NewInt(n)) }

// num is an exact complex number by math/big.
type num struct{ re, im *big.Rat }

func in(re, im int64) num { return num{big.NewRat(re, 1), big.NewRat(im, 1)} }

func flat(x *big.Rat) num { return num{x, new(big.Rat)} }

func (z num) gauss() api.Gauss { return api.Gauss{Re: fraction(z.re), Im: fraction(z.im)} }

func (z num) fits() bool { return upTo(z.re) && upTo(z.im) }

func (z num) zero() bool { return z.re.Sign() == 0 && z.im.Sign() == 0 }

func (z num) text() string { return z.re.RatString() + " " + z.im.RatString() }

func (z num) plus(w num) num { return num{plus(z.re, w.re), plus(z.im, w.im)} }

func (z num) neg() num { return num{opposite(z.re), opposite(z.im)} }

func (z num) conj() num { return num{z.re, opposite(z.im)} }

func (z num) times(w num) num {
	return num{plus(times(z.re, w.re), opposite(times(z.im, w.im))), plus(times(z.re, w.im), times(z.im, w.re))}
}

func (z num) over(w num) num {
	norm := new(big.Rat).Inv(w.times(w.conj()).re)
	return z.times(w.conj()).times(flat(norm))
}

// spot is a point by math/big.
type spot struct {
	inf bool
	z   num
}

func far() spot { return spot{inf: true} }

func at(z num) spot { return spot{z: z} }

func (p spot) point() api.Point {
	if p.inf {
		return api.Point{Inf: true}
	}
	return api.Point{Z: p.z.gauss()}
}

func (p spot) fits() bool { return p.inf || p.z.fits() }

// chart is a map by math/big, in its one form, of numbers of any length.
type chart struct {
	a, b, c, d num
	turns      bool
}

func charted(a, b, c, d int64) chart {
	return chart{a: in(a, 0), b: in(b, 0), c: in(c, 0), d: in(d, 0)}.formed()
}

func still() chart { return charted(1, 0, 0, 1) }

func slide(b num) chart { return chart{a: in(1, 0), b: b, c: in(0, 0), d: in(1, 0)} }

func stretch(a num) chart { return chart{a: a, b: in(0, 0), c: in(0, 0), d: in(1, 0)} }

// swap is z to 1 / z, bar z to its conjugate.
func swap() chart { return charted(0, 1, 1, 0) }

func bar() chart { return still().turned() }

func (m chart) turned() chart {
	m.turns = !m.turns
	return m
}

func (m chart) formed() chart {
	by := m.c
	if by.zero() {
		by = m.d
	}
	return chart{m.a.over(by), m.b.over(by), m.c.over(by), m.d.over(by), m.turns}
}

func (m chart) mob() api.Mob {
	return api.Mob{A: m.a.gauss(), B: m.b.gauss(), C: m.c.gauss(), D: m.d.gauss(), Turns: m.turns}
}

func (m chart) fits() bool { return m.a.fits() && m.b.fits() && m.c.fits() && m.d.fits() }

// key tells maps apart, those that are too big among them.
func (m chart) key() string {
	s := strings.Join([]string{m.a.text(), m.b.text(), m.c.text(), m.d.text()}, " ")
	if m.turns {
		return "turn " + s
	}
	return s
}

func (m chart) conj() chart { return chart{m.a.conj(), m.b.conj(), m.c.conj(), m.d.conj(), m.turns} }

// behind multiplies the matrices.
func (m chart) behind(n chart) chart {
	turns := m.turns != n.turns
	if m.turns {
		n = n.conj()
	}
	return chart{
		m.a.times(n.a).plus(m.b.times(n.c)), m.a.times(n.b).plus(m.b.times(n.d)),
		m.c.times(n.a).plus(m.d.times(n.c)), m.c.times(n.b).plus(m.d.times(n.d)), turns,
	}.formed()
}

func (m chart) inverse() chart {
	n := chart{m.d, m.b.neg(), m.c.neg(), m.a, m.turns}
	if m.turns {
		n = n.conj()
	}
	return n.formed()
}

// at goes by the words of DOC.md.
func (m chart) at(p spot) spot {
	if p.inf {
		if m.c.zero() {
			return far()
		}
		return at(m.a.over(m.c))
	}
	w := p.z
	if m.turns {
		w = w.conj()
	}
	below := m.c.times(w).plus(m.d)
	if below.zero() {
		return far()
	}
	return at(m.a.times(w).plus(m.b).over(below))
}

// order goes on till the map moves nothing, far past all orders there are.
func (m chart) order() int {
	done := m
	for n := 1; n <= 25; n++ {
		if done.key() == still().key() {
			return n
		}
		done = done.behind(m)
	}
	return 0
}

func mobs(l []chart) []api.Mob {
	var out []api.Mob
	for _, m := range l {
		out = append(out, m.mob())
	}
	return out
}

// made wants a group of the maps.
func made(t *testing.T, l ...chart) *group.Group {
	t.Helper()
	g, e := group.New(mobs(l)...)
	if e != api.OK || g == nil {
		t.Fatalf("New of %d maps is %v, %v", len(l), g, e)
	}
	return g
}

// grown wants a group of the maps, grown to n.
func grown(t *testing.T, n int, l ...chart) *group.Group {
	t.Helper()
	g := made(t, l...)
	if e := g.Grow(n); e != api.OK {
		t.Fatalf("Grow(%d) is %v", n, e)
	}
	return g
}

// one is an element as the document says it is.
type one struct {
	m    chart
	word []int
}

// letters are those of n maps, in the order 1, -1, 2, -2, and so on.
func letters(n int) []int {
	var l []int
	for k := 1; k <= n; k++ {
		l = append(l, k, -k)
	}
	return l
}

// move is what a letter stands for.
func move(l []chart, letter int) chart {
	if letter < 0 {
		return l[-letter-1].inverse()
	}
	return l[letter-1]
}

// wordMap does the last letter's map first.
func wordMap(l []chart, word []int) chart {
	m := still()
	for _, letter := range slices.Backward(word) {
		m = move(l, letter).behind(m)
	}
	return m
}

// firsts goes over all words of at most n letters, in their order, and keeps
// each map's first one.
func firsts(l []chart, n int) []one {
	all := []one{{m: still()}}
	met := map[string]bool{still().key(): true}
	out := slices.Clone(all)
	for range n {
		var longer []one
		for _, x := range all {
			for _, letter := range letters(len(l)) {
				y := one{x.m.behind(move(l, letter)), append(slices.Clone(x.word), letter)}
				longer = append(longer, y)
				if !met[y.m.key()] {
					met[y.m.key()] = true
					out = append(out, y)
				}
			}
		}
		all = longer
	}
	return out
}

func placed(all []one, m chart) int {
	return slices.IndexFunc(all, func(x one) bool { return x.m.key() == m.key() })
}

// state is all that a group tells.
type state struct {
	letters, depth, length int
	whole                  bool
	spheres                []int
	members                []api.Member
}

func stateOf(g *group.Group) state {
	s := state{letters: g.Letters(), depth: g.Depth(), length: g.Len(), whole: g.Whole()}
	for d := range g.Depth() + 2 {
		s.spheres = append(s.spheres, g.Sphere(d))
	}
	for i := range g.Len() {
		m, _ := g.Member(i)
		s.members = append(s.members, m)
	}
	return s
}

func sameMember(a, b api.Member) bool { return a.Map == b.Map && slices.Equal(a.Word, b.Word) }

func (s state) same(t state) bool {
	return s.letters == t.letters && s.depth == t.depth && s.length == t.length && s.whole == t.whole &&
		slices.Equal(s.spheres, t.spheres) && slices.EqualFunc(s.members, t.members, sameMember)
}

func wantError(t *testing.T, what string, got, want api.Errno) {
	t.Helper()
	if got != want {
		t.Errorf("%s is %v, want %v", what, got, want)
	}
}

func wantNumber(t *testing.T, what string, got int, e api.Errno, want int) {
	t.Helper()
	if got != want || e != api.OK {
		t.Errorf("%s is %d, %v, want %d", what, got, e, want)
	}
}

func wantNoNumber(t *testing.T, what string, got int, e, want api.Errno) {
	t.Helper()
	if got != 0 || e != want {
		t.Errorf("%s is %d, %v, want 0, %v", what, got, e, want)
	}
}

func wantWord(t *testing.T, what string, got []int, e api.Errno, want ...int) {
	t.Helper()
	if !slices.Equal(got, want) || e != api.OK {
		t.Errorf("%s is %v, %v, want %v", what, got, e, want)
	}
}

func wantNoWord(t *testing.T, what string, got []int, e, want api.Errno) {
	t.Helper()
	if got != nil || e != want {
		t.Errorf("%s is %v, %v, want nothing, %v", what, got, e, want)
	}
}

func wantMap(t *testing.T, what string, got api.Mob, e api.Errno, want chart) {
	t.Helper()
	if got != want.mob() || e != api.OK {
		t.Errorf("%s is another map, %v, want %.60s", what, e, want.key())
	}
}

func wantNoMap(t *testing.T, what string, got api.Mob, e, want api.Errno) {
	t.Helper()
	if got != (api.Mob{}) || e != want {
		t.Errorf("%s: %v, want nothing, %v", what, e, want)
	}
}

func wantMember(t *testing.T, what string, got api.Member, e api.Errno, m chart, word ...int) {
	t.Helper()
	if got.Map != m.mob() || !slices.Equal(got.Word, word) || e != api.OK {
		t.Errorf("%s is of the word %v, %v, want %v, %.60s", what, got.Word, e, word, m.key())
	}
}
