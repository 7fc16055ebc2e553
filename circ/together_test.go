package circ_test

import (
	"math/rand"
	"slices"
	"testing"

	"tracery/api"
	"tracery/circ"
)

// firstThree answers the first three unlike ones, by the words of P11.6.
func firstThree(l []spot) (three []spot) {
	for _, p := range l {
		if len(three) < 3 && !slices.ContainsFunc(three, p.same) {
			three = append(three, p)
		}
	}
	return three
}

func wantTogether(t *testing.T, l ...spot) {
	t.Helper()
	c, all, e := circ.Together(pointsOf(l...)...)
	what := "the circle of" + briefs(pointsOf(l...)...)
	three := firstThree(l)
	if len(three) < 3 {
		wantApart(t, what, c, all, e, api.ErrNone)
		return
	}
	k := through(three[0], three[1], three[2])
	switch {
	case !k.fits():
		wantApart(t, what, c, all, e, api.ErrBig)
	case slices.ContainsFunc(l, func(p spot) bool { return k.side(p) != 0 }):
		wantApart(t, what, c, all, e, api.OK)
	case c != k.circle() || !all || e != api.OK:
		t.Fatalf("%s is %s, %v, %v, want %s", what, brief(c), all, e, brief(k.circle()))
	}
}

func wantApart(t *testing.T, what string, c api.Circle, all bool, e, wanted api.Errno) {
	t.Helper()
	if c != (api.Circle{}) || all || e != wanted {
		t.Fatalf("%s is %s, %v, %v, want nothing, false and %v", what, brief(c), all, e, wanted)
	}
}

func TestTogether(t *testing.T) { // P11.6
	wantTogether(t)
	pool := near0()
	r := rand.New(rand.NewSource(1160))
	for range 3000 {
		var l []spot
		for range r.Intn(7) {
			l = append(l, pool[r.Intn(len(pool))])
		}
		wantTogether(t, l...)
	}
	threes(func(p, q, r spot) {
		wantTogether(t, p, q, r)
		wantTogether(t, p, p, q, q, p, r, q)
	})
}

func TestTogetherExamples(t *testing.T) { // P11.6
	for _, x := range []struct {
		l    []spot
		k    ring
		all  bool
		want api.Errno
	}{
		{[]spot{on(1, 0), on(1, 0), on(0, 1), on(-1, 0), on(0, -1)}, unit(), true, api.OK}, {[]spot{far(), on(1, 0), far(), on(1, 0), on(2, 0), on(9, 0), far()}, reals(), true, api.OK}, {[]spot{on(0, 0), on(1, 0), on(2, 0), far()}, reals(), true, api.OK},
		{l: []spot{on(1, 0), on(0, 1), on(-1, 0), on(2, 0)}}, {l: []spot{on(1, 0), on(0, 1), on(-1, 0), far()}}, {l: []spot{on(1, 0), on(2, 0), on(3, 0), far(), on(3, 0), on(0, 1)}},
		{l: []spot{on(1, 0), on(1, 0), on(0, 1)}, want: api.ErrNone}, {l: []spot{far(), far(), far()}, want: api.ErrNone}, {l: []spot{far(), on(0, 0), on(0, 0), far()}, want: api.ErrNone}, {want: api.ErrNone}, {l: []spot{on(0, 0)}, want: api.ErrNone},
	} {
		c, all, e := circ.Together(pointsOf(x.l...)...)
		if x.all && (c != x.k.circle() || !all || e != api.OK) {
			t.Errorf("the circle of%s is %s, %v, %v", briefs(pointsOf(x.l...)...), brief(c), all, e)
		}
		if !x.all {
			wantApart(t, "the circle of"+briefs(pointsOf(x.l...)...), c, all, e, x.want)
		}
	}
}

func TestTogetherLong(t *testing.T) { // P11.6
	r := rand.New(rand.NewSource(1161))
	var l []spot
	for range 20 {
		l = append(l, at(onUnit(r, 1000)))
	}
	wantTogether(t, l...)
	wantTogether(t, append(slices.Clone(l), at(num{l[0].z.re, plus(l[0].z.im, under(less(root(), 1)))}))...)
	p, q, s := at(fullNum(r, 1024)), at(fullNum(r, 1024)), at(fullNum(r, 1024))
	c, all, e := circ.Together(p.point(), p.point(), q.point(), q.point())
	wantApart(t, "the circle of two long points", c, all, e, api.ErrNone)
	// The circle through the first three is refused, wherever the others are.
	for _, l := range [][]spot{{p, q, s}, {p, q, p, s, q, s}, {p, q, s, on(0, 0)}, {p, q, s, far(), on(0, 1)}} {
		c, all, e = circ.Together(pointsOf(l...)...)
		wantApart(t, "the circle of long points", c, all, e, api.ErrBig)
	}
	wantTogether(t, p, on(0, 0), on(1, 0), q)
	seen := sides{}
	for k := range 40 {
		count := 82 + k/4
		l := []spot{at(fullNum(r, count)), at(fullNum(r, count)), at(fullNum(r, count))}
		seen.count(through(l[0], l[1], l[2]).fits())
		wantTogether(t, l...)
		wantTogether(t, append(l, on(0, 0))...)
	}
	seen.both(t)
}

func TestTogetherRefuses(t *testing.T) { // P11.6
	full, more := many(api.MaxList, on(0, 1)), many(api.MaxList+1, on(0, 1))
	refused := func(what string, wanted api.Errno, l ...api.Point) {
		t.Helper()
		c, all, e := circ.Together(l...)
		wantApart(t, what, c, all, e, wanted)
	}
	refused("as many points as may be, all the same", api.ErrNone, full...)
	refused("one point more than may be, all the same", api.ErrLong, more...)
	full[7], full[api.MaxList-1] = on(1, 0).point(), on(-1, 0).point()
	if c, all, e := circ.Together(full...); c != unit().circle() || !all || e != api.OK {
		t.Fatalf("as many points as may be: %s, %v, %v", brief(c), all, e)
	}
	full[api.MaxList-2] = on(3, 3).point()
	refused("as many points as may be, two from the end one beside", api.OK, full[:api.MaxList]...)
	more[7], more[8] = on(1, 0).point(), on(-1, 0).point()
	refused("one point more than may be", api.ErrLong, more...)
	long := at(fullNum(rand.New(rand.NewSource(1162)), 1024)).point()
	for _, p := range wrongPoints() {
		for _, k := range []int{0, 9, api.MaxList} {
			kept := more[k]
			more[k] = p
			refused("one point more than may be, a wrong one among them", api.ErrArg, more...)
			more[k] = kept
		}
		refused("a wrong point", api.ErrArg, p)
		refused("a wrong point, and the same again", api.ErrArg, p, p, p)
		refused("a wrong point behind others", api.ErrArg, on(0, 0).point(), on(1, 0).point(), on(2, 0).point(), on(0, 7).point(), p)
		refused("a wrong point behind long ones", api.ErrArg, long, on(0, 2).point(), on(1, 0).point(), p)
	}
}
