package flips_test

import (
	"math/big"
	"math/rand"
	"testing"

	"tracery/api"
	"tracery/flips"
	"tracery/mob"
	"tracery/nets"
)

// wantStep holds Step against the chapter's words; it wants a ratio that is
// neither 0 nor 1.
func wantStep(t *testing.T, seen tally, p, q spot, k num) {
	t.Helper()
	if !p.fits() || !q.fits() || !k.fits() {
		return
	}
	got, e := flips.Step(p.point(), q.point(), k.gauss())
	if p.same(q) {
		seen["the same"]++
		wantNone(t, "Step from a point to itself", got, e, api.ErrNet)
		return
	}
	m := step(p, q, k)
	if !m.fits() {
		seen["too big"]++
		wantNone(t, "Step that is too big", got, e, api.ErrBig)
		return
	}
	seen["told"]++
	switch {
	case p.inf:
		seen["from infinity"]++
	case q.inf:
		seen["to infinity"]++
	}
	want(t, "Step", got, e, m.mob())
}

func TestStep(t *testing.T) { // P28.2
	seen := tally{}
	pool := []spot{far(), on(0, 0), on(1, 0), on(0, 1), on(1, 1), on(2, 0), at(parts(1, 2, -3, 2)), on(-1, 0)}
	ratios := []num{in(-1, 0), in(2, 0), parts(1, 2, 0, 1), in(0, 1), in(1, 1), in(1, -1), parts(-3, 7, 2, 5), in(-2, 0), in(0, -3)}
	for _, p := range pool {
		for _, q := range pool {
			for _, k := range ratios {
				wantStep(t, seen, p, q, k)
				// It leaves both where they are, and sends others to their corners.
				m, e := flips.Step(p.point(), q.point(), k.gauss())
				for _, s := range pool {
					r, f := mob.At(m, s.point())
					switch {
					case e != api.OK:
					case s.same(p), s.same(q):
						want(t, "what stays", r, f, s.point())
					default:
						x, _ := nets.Corner(p.point(), q.point(), s.point(), k.gauss())
						want(t, "what is sent", r, f, x)
					}
				}
			}
		}
	}
	r := rand.New(rand.NewSource(2820))
	for n := range 200 {
		k := goingWith([]num{in(1, 0)}, func() num { return oddNum(r, 1+n%20) })
		wantStep(t, seen, oddSpot(r, 1+n%20), oddSpot(r, 1+n%20), k)
	}
	seen.least(t, 60, "told", "the same", "from infinity", "to infinity")
}

// P28.2: both sides of the bound, in each number of the map.
func TestStepAtTheBound(t *testing.T) {
	t.Parallel()
	seen := tally{}
	half, n := twos(8191), 0
	for _, x := range []*big.Rat{ofInt(half), ofInt(more(half, -1)), ofInt(top()), under(top()), under(half), ratio(half, more(half, -1)), ofInt(twos(4096)), ofInt(more(twos(4096), -1)), under(twos(4096))} {
		for _, by := range []num{in(1, 0), in(0, 1), in(-1, 0), in(1, 1)} {
			z := by.scaled(x)
			for _, k := range []num{in(2, 0), in(-1, 0), parts(1, 2, 0, 1), in(0, 1), z, z.neg(), in(1, 0).minus(z), in(1, 0).plus(z)} {
				if !k.goes(in(1, 0)) {
					continue
				}
				for _, p := range []spot{at(z), far(), on(0, 0), on(1, 0), at(z.plus(in(1, 0))), at(z.neg())} {
					for _, q := range []spot{at(z), far(), on(0, 0), on(-1, 0), at(z.neg())} {
						if n++; n%23 == 0 {
							wantStep(t, seen, p, q, k)
						}
					}
				}
			}
		}
	}
	r := rand.New(rand.NewSource(2821))
	for range 12 {
		z, w := longNum(r, 250+r.Intn(10)), longNum(r, 250+r.Intn(10))
		wantStep(t, seen, at(z), at(w), in(2, 1))
		wantStep(t, seen, at(z), far(), w)
		wantStep(t, seen, far(), at(z), w)
	}
	got, e := flips.Step(at(longNum(r, 1024)).point(), at(longNum(r, 1024)).point(), longNum(r, 1024).gauss())
	wantNone(t, "Step of the longest numbers", got, e, api.ErrBig)
	seen.least(t, 30, "told", "too big", "from infinity", "to infinity")
	// 1 less the ratio is too long, and the map is not.
	all := ofInt(top())
	got, e = flips.Step(at(along(minus(all, rat(1, 1)))).point(), on(-1, 0).point(), along(opposite(all)).gauss())
	want(t, "Step", got, e, chart{in(-2, 0), along(minus(all, rat(1, 1))), in(1, 0), along(opposite(all))}.mob())
}

// P28.2: ErrArg, ahead of points that are the same.
func TestStepRefuses(t *testing.T) {
	p, q, k := on(0, 0).point(), on(1, 0).point(), in(2, 0).gauss()
	for _, l := range [][2]api.Point{{p, q}, {p, p}, {far().point(), far().point()}, {at(along(ofInt(top()))).point(), at(along(ofInt(twos(8191)))).point()}} {
		for _, z := range append(wrongLabels(), in(1, 0).gauss()) {
			got, e := flips.Step(l[0], l[1], z)
			wantNone(t, "Step by a wrong ratio", got, e, api.ErrArg)
		}
	}
	for _, x := range wrongPoints() {
		for _, l := range [][2]api.Point{{x, q}, {p, x}, {x, x}} {
			for _, z := range []api.Gauss{k, in(0, 0).gauss(), in(1, 0).gauss()} {
				got, e := flips.Step(l[0], l[1], z)
				wantNone(t, "Step of a wrong point", got, e, api.ErrArg)
			}
		}
	}
}

// wantCarry holds Carry against the chapter's words; it wants what is no ErrArg.
func wantCarry(t *testing.T, seen tally, x row, by num) {
	t.Helper()
	got, e := flips.Carry(points(x.points), gausses(x.labels), by.gauss())
	l, no := x.carried(by)
	if len(no) > 0 {
		wantNone(t, "Carry that is refused", got, e, no[0])
	} else {
		want(t, "Carry", got, e, l[len(l)-1].mob())
	}
	switch {
	case len(no) == 0:
		seen["told"]++
		for k := 1; k < len(x.labels); k++ {
			if !step(x.points[k], x.points[k+1], x.labels[k].over(by)).fits() {
				seen["told, though a step is too big"]++
			}
		}
	case no[0] == api.ErrNet && x.points[0].same(x.points[1]):
		seen["ErrNet at once"]++
	case no[0] == api.ErrNet:
		seen["ErrNet further on"]++
	case l[len(l)-1].fits():
		seen["ErrBig, though the whole is not"]++
	case l[1].fits():
		seen["ErrBig further on"]++
	default:
		seen["ErrBig"]++
	}
}

func TestCarry(t *testing.T) { // P28.2
	seen := tally{}
	rows(2822, 800, func(x row, by num, _ spot) { wantCarry(t, seen, x, by) })
	seen.least(t, 30, "told", "ErrNet at once", "ErrNet further on")
	for _, count := range []int{1, 2, 3, 4, 17} {
		wantCarry(t, seen, alternating(count, on(0, 0), on(1, 1)), in(2, 0))
	}
}

func TestCarryAtTheBound(t *testing.T) { // P28.2
	t.Parallel()
	seen := tally{}
	n := 0
	rows(2823, 200, func(x row, by num, _ spot) {
		n++
		scale := append(scales(), ofInt(twos(4094)), under(twos(4094)), ofInt(more(twos(4095), -1)))[n%9]
		if x.points = images(stretch(along(scale)), x.points); allFit(x.points) {
			wantCarry(t, seen, x, by)
		}
	})
	seen.least(t, 5, "told", "ErrBig", "ErrBig further on", "ErrNet at once", "ErrNet further on")
}

// P28.2: what the first steps make together is too big, and what all of them
// make is not.
func TestCarryOnTheWay(t *testing.T) {
	seen := tally{}
	p, q := at(along(ofInt(twos(5000)))), at(along(opposite(ofInt(twos(5000)))))
	wantCarry(t, seen, alternating(2, p, q), in(2, 0))
	wantCarry(t, seen, alternating(3, p, q), in(2, 0)) // there and back
	wantCarry(t, seen, alternating(5, p, q), in(2, 0))
	short := alternating(3, on(0, 0), on(1, 0)) // the first two steps are not
	short.points, short.labels = append(short.points, p, q, p), append(short.labels, repeated(in(3, 0), 3)...)
	wantCarry(t, seen, short, in(2, 0))
	seen.least(t, 2, "ErrBig, though the whole is not")
	// Two that are the same go ahead of that, wherever they stand.
	for _, k := range []int{1, 2, 3, 4} {
		x := alternating(5, p, q)
		x.points[k] = x.points[k-1]
		wantCarry(t, seen, x, in(2, 0))
	}
	seen.least(t, 1, "ErrNet at once")
	seen.least(t, 3, "ErrNet further on")
}

// shrinking is a row whose second step is z to u u z, which is too big, and whose
// first one is z to z / u; that of both together is z to u z. The second label's
// ratio is (u - 1) (u + 1) / (u u).
func shrinking() (x row, by num) {
	u := twos(4800)
	c, d := more(u, -1), more(u, 1)
	return row{[]spot{on(0, 0), far(), on(0, 0)}, []num{along(ratio(more(u, -1), c)), along(ratio(d, u))}}, along(ratio(u, c))
}

// P28.2: a step that is too big by itself, behind one that makes it short; and
// ratios that are too long.
func TestCarryOfGreatSteps(t *testing.T) {
	seen := tally{}
	x, by := shrinking()
	got, e := flips.Carry(points(x.points), gausses(x.labels), by.gauss())
	want(t, "Carry", got, e, stretch(along(ofInt(twos(4800)))).mob())
	for _, m := range []chart{still(), slide(in(2, 1)), charted(0, 1, 1, 0), {in(1, 0), in(0, 0), in(1, 0), in(0, 3)}} {
		wantCarry(t, seen, row{images(m, x.points), x.labels}, by)
	}
	seen.least(t, 4, "told, though a step is too big")
	wantCarry(t, seen, row{x.points[1:], x.labels[1:]}, by) // it alone
	seen.least(t, 1, "ErrBig")
	l, by, _ := lengthy()
	wantCarry(t, seen, l, by)
	r := rand.New(rand.NewSource(2824))
	for _, m := range charts() {
		z := longNum(r, 1023)
		wantCarry(t, seen, row{images(m, straight(4, in(1, 0))), []num{z, z.neg(), z}}, z.scaled(rat(2, 1)))
	}
	seen.least(t, 10, "told")
}

func TestCarryOfManyPoints(t *testing.T) { // P28.2
	wantCarry(t, tally{}, alternating(api.MaxList, on(0, 0), on(1, 1)), in(2, 0))
	same := alternating(api.MaxList, on(0, 0), on(1, 1))
	same.points[api.MaxList-1] = same.points[api.MaxList-2]
	wantCarry(t, tally{}, same, in(2, 0))
	for _, count := range []int{api.MaxList + 1, api.MaxList + 2, 3 * api.MaxList} {
		for _, x := range []row{alternating(count, on(0, 0), on(1, 1)), alternating(count, on(1, 1), on(1, 1)), alternating(count, on(0, 0), at(along(ofInt(top()))))} {
			got, e := flips.Carry(points(x.points), gausses(x.labels), in(2, 0).gauss())
			wantNone(t, "Carry of too many", got, e, api.ErrLong)
		}
	}
}

func TestCarryOfOnePoint(t *testing.T) { // P28.2
	for _, p := range []spot{on(0, 0), far(), at(along(ofInt(top())))} {
		for _, labels := range [][]api.Gauss{nil, {}} {
			got, e := flips.Carry([]api.Point{p.point()}, labels, in(0, 3).gauss())
			want(t, "Carry of one point", got, e, still().mob())
		}
	}
}

// P28.2: ErrArg, as Row, ahead of all else.
func TestCarryRefuses(t *testing.T) {
	for _, x := range refusedRows() {
		noRows(x, in(2, 0), func(what string, points []api.Point, labels []api.Gauss, by api.Gauss) {
			got, e := flips.Carry(points, labels, by)
			wantNone(t, "Carry of "+what, got, e, api.ErrArg)
		})
	}
	for _, z := range wrongLabels() {
		got, e := flips.Carry([]api.Point{on(0, 0).point()}, nil, z)
		wantNone(t, "Carry of one point by a wrong number", got, e, api.ErrArg)
	}
	for _, q := range wrongPoints() {
		got, e := flips.Carry([]api.Point{q}, nil, in(2, 0).gauss())
		wantNone(t, "Carry of one wrong point", got, e, api.ErrArg)
	}
}
