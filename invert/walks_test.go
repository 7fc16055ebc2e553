package invert_test

import (
	"iter"
	"math"
	"math/rand"
	"slices"
	"testing"

	"tracery/api"
	"tracery/invert"
	"tracery/mob"
)

// wantChain goes by matrices, one behind the other; what the first ones make
// must fit each time.
func wantChain(t *testing.T, l ...ring) string {
	t.Helper()
	got, e := invert.Chain(circlesOf(l...)...)
	wanted := still()
	for k, c := range l {
		if wanted = c.over().behind(wanted); !wanted.fits() {
			wantNone(t, "a chain that is too big", got, e, api.ErrBig)
			return []string{"ErrBig at once", "ErrBig"}[min(k, 1)]
		}
	}
	wantMap(t, "the chain of"+briefRings(l...), got, e, wanted)
	if wanted.turns {
		return "turns"
	}
	return "does not turn"
}

func TestChain(t *testing.T) { // P14.2
	r := rand.New(rand.NewSource(1420))
	some, long, seen := grains(), longs(), tally{}
	for n := range 400 {
		var small, odds, longer []ring
		for range n % 7 {
			small = append(small, some[r.Intn(len(some))])
			odds = append(odds, oddRing(r, 4))
			longer = append(longer, long[r.Intn(len(long))])
		}
		seen[wantChain(t, small...)]++
		seen[wantChain(t, odds...)]++
		if n%4 == 0 {
			seen[wantChain(t, longer...)]++
		}
	}
	seen.least(t, 100, "turns", "does not turn")
	seen.least(t, 10, "ErrBig at once", "ErrBig")
	for _, k := range rings() {
		wantChain(t, k)
		wantChain(t, k, k)
		wantChain(t, k, k, k)
	}
}

func TestChainExamples(t *testing.T) { // P14.2
	for _, x := range []struct {
		l []ring
		m chart
	}{
		{nil, still()}, {[]ring{}, still()}, {[]ring{reals(), high()}, slide(in(0, 2))}, {[]ring{high(), reals()}, slide(in(0, -2))},
		{[]ring{unit()}, charted(0, 1, 1, 0).turned()}, {[]ring{unit(), reals()}, charted(0, 1, 1, 0)}, {[]ring{reals(), unit()}, charted(0, 1, 1, 0)}, {[]ring{unit(), unit()}, still()},
		{[]ring{unit(), o(0, 0, 2)}, charted(4, 0, 0, 1)}, {[]ring{reals(), ups()}, charted(-1, 0, 0, 1)}, {[]ring{reals(), ringed(0, 1, -1, 0)}, chart{in(0, -1), in(0, 0), in(0, 0), in(1, 0), false}},
		{[]ring{ups(), beside(rat(1, 1)), reals()}, charted(1, 2, 0, 1).turned()}, {[]ring{unit(), high(), reals()}, chart{in(0, -2), in(1, 0), in(1, 0), in(0, 0), true}},
	} {
		got, e := invert.Chain(circlesOf(x.l...)...)
		wantMap(t, "the chain of"+briefRings(x.l...), got, e, x.m)
	}
	if m, e := invert.Chain(); m != mob.One() || e != api.OK {
		t.Errorf("the chain of none is %s, %v", briefMap(m), e)
	}
}

// What the first ones make is refused, though all of them make what is not too
// big; what one of the others makes by itself is not asked.
func TestChainBeginnings(t *testing.T) { // P14.2
	r := rand.New(rand.NewSource(1421))
	k, l := fullRing(r, 150), fullRing(r, 150)
	touching := ring{rat(1, 1), steep().b, none()} // it touches the line at 0
	upright := upon(steep().b.conj().quarter(), in(0, 0))
	for _, x := range []struct {
		l    []ring
		want string
	}{
		{[]ring{steep()}, "ErrBig at once"}, {[]ring{steep(), steep()}, "ErrBig at once"}, {[]ring{steep(), upright}, "ErrBig at once"}, {[]ring{unit(), steep(), steep()}, "ErrBig"}, {[]ring{unit(), unit(), steep(), steep()}, "ErrBig"},
		{[]ring{k, l}, "ErrBig"}, {[]ring{k, l, l, k}, "ErrBig"}, {[]ring{k, k, l, l}, "does not turn"}, {[]ring{k, k, l, k}, "ErrBig"}, {[]ring{l, l, k}, "turns"},
		{[]ring{touching, steep()}, "does not turn"}, {[]ring{touching, steep(), touching}, "turns"}, {[]ring{touching, steep(), unit()}, "ErrBig"}, {[]ring{touching, steep(), steep()}, "turns"}, {[]ring{steep(), touching}, "ErrBig at once"}, {[]ring{touching, touching, steep()}, "ErrBig"},
		{[]ring{longs()[0], longs()[0]}, "does not turn"}, {[]ring{longs()[0], longs()[0], longs()[2]}, "turns"}, {[]ring{longs()[0], longs()[2], longs()[2]}, "ErrBig"},
	} {
		if got := wantChain(t, x.l...); got != x.want {
			t.Errorf("the chain of%s: %s, want %s", briefRings(x.l...), got, x.want)
		}
	}
	var away []ring // each two bring all on by a number that has one byte more
	for n := range uint(api.MaxWhole) {
		away = append(away, ups(), beside(ofInt(twos(8*n))))
	}
	if got := wantChain(t, away...); got != "does not turn" {
		t.Errorf("a chain that goes far: %s", got)
	}
}

func TestLists(t *testing.T) { // P14.2
	many := slices.Repeat(circlesOf(reals(), high(), unit(), unit()), api.MaxList/4)
	m, e := invert.Chain(many...)
	wantMap(t, "as many as may be", m, e, slide(in(0, api.MaxList/2)))
	wanted := []spot{}
	for k := range int64(api.MaxList / 4) {
		wanted = append(wanted, on(1, 2*k), on(1, -2*k), on(1, 2*k+2), at(in(1, 0).over(in(1, -2*k-2))))
	}
	wanted = append(wanted, on(1, api.MaxList/2))
	walk, e := invert.Walk(on(1, 0).point(), many...)
	if e != api.OK {
		t.Fatalf("a walk over as many as may be: %v", e)
	}
	count := 0
	for k, p := range walk {
		if k != count || p != wanted[k].point() {
			t.Fatalf("%d of a long walk is %d, %s", count, k, briefPoint(p))
		}
		count++
	}
	if count != api.MaxList+1 {
		t.Errorf("a walk over as many as may be tells %d", count)
	}
	refused := func(what string, wanted api.Errno, p spot, l ...api.Circle) {
		t.Helper()
		m, e := invert.Chain(l...)
		wantNone(t, "the chain of "+what, m, e, wanted)
		if walk, e := invert.Walk(p.point(), l...); walk != nil || e != wanted {
			t.Errorf("a walk over %s: %v, want %v", what, e, wanted)
		}
	}
	more := append(many, unit().circle())
	refused("one more than may be", api.ErrLong, far(), more...)
	refused("one more than may be, too big at once", api.ErrLong, far(), append([]api.Circle{steep().circle()}, many...)...)
	refused("far more than may be", api.ErrLong, on(0, 0), slices.Repeat(more, 3)...)
	if walk, e := invert.Walk(api.Point{}, more...); walk != nil || e != api.ErrArg {
		t.Errorf("a walk of a wrong point over one more than may be: %v", e)
	}
	for _, k := range []int{0, 1, api.MaxList / 2, api.MaxList - 1, api.MaxList} {
		was := more[k]
		more[k] = ringed(1, 0, 0, 1).circle()
		refused("one more than may be, a wrong one among them", api.ErrArg, far(), more...)
		if k < api.MaxList {
			refused("as many as may be, a wrong one among them", api.ErrArg, far(), more[:api.MaxList]...)
		}
		more[k] = was
	}
}

func TestChainAndWalkRefuse(t *testing.T) { // P14.2
	good := circlesOf(unit(), reals(), steep(), longs()[0])
	refused := func(p api.Point, l ...api.Circle) {
		t.Helper()
		m, e := invert.Chain(l...)
		wantNone(t, "a chain with a wrong circle", m, e, api.ErrArg)
		if walk, e := invert.Walk(p, l...); walk != nil || e != api.ErrArg {
			t.Fatalf("a walk over a wrong circle: %v", e)
		}
	}
	for _, c := range wrongCircles() {
		refused(far().point(), c)
		refused(api.Point{}, c)
		refused(on(2, 1).point(), c, good[0])
		for k := range good {
			refused(on(0, 0).point(), append(slices.Clone(good[:k+1]), c)...) // behind what is too big, too
			refused(on(0, 0).point(), append([]api.Circle{good[k], c}, good...)...)
		}
	}
	for _, p := range wrongPoints() {
		for k := range len(good) + 1 {
			if walk, e := invert.Walk(p, good[:k]...); walk != nil || e != api.ErrArg {
				t.Fatalf("a walk of a wrong point: %v", e)
			}
		}
	}
}

// wantWalk goes by turned, up to what is too big, and answers how many it told.
func wantWalk(t *testing.T, p spot, l ...ring) int {
	t.Helper()
	walk, e := invert.Walk(p.point(), circlesOf(l...)...)
	if e != api.OK || walk == nil {
		t.Fatalf("a walk over%s: %v", briefRings(l...), e)
	}
	told := 0
	for k, q := range walk {
		if k != told || k > len(l) || !p.fits() || q != p.point() {
			t.Fatalf("%d of a walk over%s is %d, %s, want %s", told, briefRings(l...), k, briefPoint(q), briefPoint(p.point()))
		}
		if told++; k < len(l) {
			p = l[k].turned(p)
		}
	}
	if told != len(l)+1 && p.fits() {
		t.Fatalf("a walk over%s ends behind %d", briefRings(l...), told)
	}
	return told
}

func TestWalk(t *testing.T) { // P14.2
	r := rand.New(rand.NewSource(1422))
	some, points := rings(), spots()
	whole, ended := 0, 0
	for n := range 600 {
		var l []ring
		for range n % 9 {
			l = append(l, some[r.Intn(len(some))])
		}
		if n%2 == 0 {
			for k := range l {
				l[k] = oddRing(r, 3)
			}
		}
		if wantWalk(t, points[n%len(points)], l...) == len(l)+1 {
			whole++
		} else {
			ended++
		}
	}
	if whole < 100 || ended < 50 {
		t.Errorf("%d walks were whole, %d ended early", whole, ended)
	}
}

func TestWalkEndsAheadOfWhatIsTooBig(t *testing.T) { // P14.2
	most := at(real(ofInt(less(top(), 5))))
	apart := []ring{ups(), beside(rat(1, 1)), ups(), beside(rat(1, 1)), ups(), beside(rat(1, 1)), ups(), beside(rat(1, 1))} // by 2 in two steps
	r := rand.New(rand.NewSource(1423))
	k := fullRing(r, 500)
	for _, x := range []struct {
		p    spot
		l    []ring
		told int
	}{
		{far(), nil, 1}, {most, nil, 1}, {on(3, 4), []ring{unit()}, 2}, {most, apart, 6}, {most, apart[:5], 6}, {most, apart[:4], 5}, {at(most.z.neg()), apart, 9},
		{on(1, 1), []ring{k, k}, 1}, {far(), []ring{k, k, unit(), unit(), k}, 6}, {at(k.centre()), []ring{k, ups(), k, unit()}, 4}, {on(0, 0), []ring{unit(), unit(), k, k}, 3},
		{on(0, 0), []ring{steep(), unit(), steep(), steep()}, 5}, {far(), []ring{steep(), steep(), unit(), steep()}, 5}, {on(1, 0), []ring{unit(), steep(), steep()}, 2}, // the turning over it is too big
	} {
		if told := wantWalk(t, x.p, x.l...); told != x.told {
			t.Errorf("a walk over%s tells %d, want %d", briefRings(x.l...), told, x.told)
		}
	}
}

func firsts(walk iter.Seq2[int, api.Point], count int) []api.Point {
	var l []api.Point
	for _, p := range walk {
		if l = append(l, p); len(l) == count {
			break
		}
	}
	return l
}

func pointsOf(l ...spot) []api.Point {
	var out []api.Point
	for _, p := range l {
		out = append(out, p.point())
	}
	return out
}

func TestWalkIsLeftAndBegunAnew(t *testing.T) { // P14.2
	walk, _ := invert.Walk(on(0, 0).point(), circlesOf(reals(), high(), unit(), ups())...)
	wanted := pointsOf(on(0, 0), on(0, 0), on(0, 2), at(num{none(), rat(1, 2)}), at(num{none(), rat(1, 2)}))
	for _, count := range []int{1, 3, 5, 9, 2, 5} {
		if got := firsts(walk, count); !slices.Equal(got, wanted[:min(count, 5)]) {
			t.Errorf("%d of a walk: %d", count, len(got))
		}
	}
	outer := 0
	for k, p := range walk { // one within the other
		if k != outer || p != wanted[k] {
			t.Errorf("%d of a walk is %d, %s", outer, k, briefPoint(p))
		}
		if got := firsts(walk, k+1); !slices.Equal(got, wanted[:k+1]) {
			t.Errorf("a walk within itself: %d", len(got))
		}
		outer++
	}
	if outer != len(wanted) {
		t.Errorf("a walk with others within it tells %d", outer)
	}
	next, stop := iter.Pull2(walk) // two that go on in turn
	other, end := iter.Pull2(walk)
	defer stop()
	defer end()
	for k := range wanted {
		n, p, ok := next()
		m, q, yes := other()
		if n != k || m != k || p != wanted[k] || q != wanted[k] || !ok || !yes {
			t.Errorf("%d of two walks: %s, %s", k, briefPoint(p), briefPoint(q))
		}
	}
}

// What is handed in stays as it is, its spare room too, and is not kept.
func TestWhatIsHandedIn(t *testing.T) { // P14.2
	list, spare := circlesOf(reals(), high(), unit()), circlesOf(ups(), ups())
	room := append(slices.Clone(list), spare...)
	given := room[:len(list):len(room)]
	walk, e := invert.Walk(on(1, 0).point(), given...)
	if _, wrong := invert.Chain(given...); e != api.OK || wrong != api.OK {
		t.Fatal(e, wrong)
	}
	wanted := pointsOf(on(1, 0), on(1, 0), on(1, 2), at(num{rat(1, 5), rat(2, 5)}))
	if got := firsts(walk, 9); !slices.Equal(got, wanted) {
		t.Errorf("a walk tells %d", len(got))
	}
	if !slices.Equal(room, slices.Concat(list, spare)) {
		t.Error("what was handed in has changed")
	}
	told := 0
	for _, p := range walk {
		clear(room) // all of it, in the midst
		if p != wanted[told] {
			t.Errorf("%d of a walk is %s, once the list is another one", told, briefPoint(p))
		}
		told++
	}
	if got := firsts(walk, 9); told != len(wanted) || !slices.Equal(got, wanted) {
		t.Errorf("a walk tells %d, %d, once the list is another one", told, len(got))
	}
}

func wantBounce(t *testing.T, k, l ring, p spot, n int) string {
	t.Helper()
	got, e := invert.Bounce(k.circle(), l.circle(), p.point(), n)
	what := "between" + briefRings(k, l)
	for m := range n {
		if p = []ring{k, l}[m%2].turned(p); !p.fits() {
			wantNone(t, what, got, e, api.ErrBig)
			return "ErrBig"
		}
	}
	wantPoint(t, what, got, e, p)
	return "fits"
}

func TestBounce(t *testing.T) { // P14.4
	seen := tally{}
	points, n := spots(), 0
	pairs(func(k, l ring) {
		n++
		seen[wantBounce(t, k, l, points[n%len(points)], n%13)]++
	})
	seen.least(t, 100, "fits", "ErrBig")
	r := rand.New(rand.NewSource(1440))
	for n := range 60 {
		wantBounce(t, oddRing(r, 3), oddRing(r, 3), oddSpot(r, 3), n)
	}
}

func TestBounceExamples(t *testing.T) { // P14.4
	half := at(num{none(), rat(-1, 2)})
	for _, x := range []struct {
		k, l ring
		p    spot
		n    int
		want spot
	}{
		{unit(), reals(), on(0, 2), 2, half}, {unit(), reals(), on(0, 2), 0, on(0, 2)}, {unit(), reals(), on(0, 2), 1, at(num{none(), rat(1, 2)})}, {unit(), reals(), on(0, 2), 3, on(0, -2)}, {unit(), reals(), on(0, 2), 4, on(0, 2)}, {unit(), reals(), on(0, 2), 256, on(0, 2)},
		{reals(), unit(), on(0, 2), 1, on(0, -2)}, {reals(), unit(), on(0, 2), 2, half}, {reals(), unit(), far(), 2, on(0, 0)}, {unit(), reals(), on(0, 0), 1, far()}, {unit(), reals(), on(0, 0), 2, far()}, {unit(), reals(), on(0, 0), 3, on(0, 0)},
		{reals(), high(), on(3, 0), 256, on(3, 256)}, {high(), reals(), on(3, 0), 256, on(3, -256)}, {reals(), high(), on(3, 0), 255, on(3, -254)}, {reals(), high(), far(), 256, far()}, {unit(), unit(), on(1, 1), 256, on(1, 1)},
		{unit(), o(0, 0, 2), on(1, 0), 256, at(real(ofInt(twos(256))))}, {o(0, 0, 2), unit(), on(1, 0), 256, at(real(under(twos(256))))},
	} {
		got, e := invert.Bounce(x.k.circle(), x.l.circle(), x.p.point(), x.n)
		wantPoint(t, "between"+briefRings(x.k, x.l), got, e, x.want)
	}
}

// A point on the way is refused, though the last one is not too big; a turning
// over which it goes may be.
func TestBounceAtTheBound(t *testing.T) { // P14.4
	r := rand.New(rand.NewSource(1441))
	k := fullRing(r, 500)
	far64 := about(in(0, 0), ofInt(twos(64))) // between it and the unit circle 2^64 times as far
	for _, x := range []struct {
		k, l ring
		p    spot
		n    int
		want string
	}{
		{k, k, on(1, 1), 0, "fits"}, {k, k, on(1, 1), 1, "ErrBig"}, {k, k, on(1, 1), 2, "ErrBig"}, {unit(), k, on(1, 1), 1, "fits"}, {unit(), k, on(1, 1), 2, "ErrBig"}, {k, unit(), far(), 1, "fits"}, {k, k, far(), api.MaxPower, "fits"},
		{steep(), steep(), on(1, 0), 0, "fits"}, {steep(), steep(), on(1, 0), 2, "ErrBig"}, {steep(), steep(), on(0, 0), api.MaxPower, "fits"}, {steep(), unit(), on(0, 0), api.MaxPower, "fits"}, {unit(), steep(), on(1, 0), 1, "fits"}, {unit(), steep(), on(1, 0), 2, "ErrBig"},
		{unit(), far64, on(1, 0), 254, "fits"}, {unit(), far64, on(1, 0), 255, "fits"}, {unit(), far64, on(1, 0), 256, "ErrBig"}, {far64, unit(), on(1, 0), 255, "ErrBig"}, {far64, unit(), on(1, 0), 254, "fits"}, {unit(), about(in(0, 0), ofInt(twos(63))), on(1, 0), 256, "fits"},
	} {
		if got := wantBounce(t, x.k, x.l, x.p, x.n); got != x.want {
			t.Errorf("%d between%s: %s, want %s", x.n, briefRings(x.k, x.l), got, x.want)
		}
	}
}

func TestBounceRefuses(t *testing.T) { // P14.4
	u, s, one := unit().circle(), steep().circle(), on(1, 0).point()
	refused := func(c, d api.Circle, p api.Point, n int) {
		t.Helper()
		got, e := invert.Bounce(c, d, p, n)
		wantNone(t, "what may not be", got, e, api.ErrArg)
	}
	for _, n := range []int{-1, api.MaxPower + 1, math.MinInt, math.MaxInt} {
		refused(u, u, one, n)
		refused(s, s, one, n) // ahead of what is too big
		refused(api.Circle{}, u, one, n)
		refused(u, u, api.Point{}, n)
	}
	for _, c := range wrongCircles() {
		for _, n := range []int{0, 1, 2, api.MaxPower} {
			refused(c, u, one, n)
			refused(u, c, one, n)
			refused(s, c, one, n)
			refused(c, c, one, n)
		}
	}
	for _, p := range wrongPoints() {
		for _, n := range []int{0, 1, api.MaxPower} {
			refused(u, u, p, n)
			refused(s, u, p, n)
		}
	}
}
