package hurwitz_test

import (
	"math/big"
	"math/rand"
	"slices"
	"testing"

	"tracery/api"
	"tracery/hurwitz"
)

// madeOf goes by the chapter's words: what is made, or the first thing that goes
// wrong; inverted tells that it is 1 over a number, which is too big.
func madeOf(l []cell) (z num, e api.Errno, inverted bool) {
	z = l[len(l)-1].num()
	for _, a := range slices.Backward(l[:len(l)-1]) {
		if z.zero() {
			return num{}, api.ErrZero, false
		}
		z = z.over1()
		if !z.fits() {
			return num{}, api.ErrBig, true
		}
		z = a.num().plus(z)
		if !z.fits() {
			return num{}, api.ErrBig, false
		}
	}
	return z, api.OK, false
}

// exact is what comes out where no length is asked for.
func exact(l []cell) (z num, ok bool) {
	z = l[len(l)-1].num()
	for _, a := range slices.Backward(l[:len(l)-1]) {
		if z.zero() {
			return num{}, false
		}
		z = a.num().plus(z.over1())
	}
	return z, true
}

func wantMake(t *testing.T, seen tally, l ...cell) {
	t.Helper()
	wanted, wrong, inverted := madeOf(l)
	got, e := hurwitz.Make(gausses(l)...)
	seen.when("made", wrong == api.OK)
	seen.when("divided by 0", wrong == api.ErrZero)
	seen.when("too big", wrong == api.ErrBig)
	if wrong != api.OK {
		wantNone(t, "Make", got, e, wrong)
	} else {
		want(t, "Make", got, e, wanted.gauss())
	}
	if wrong == api.ErrBig && len(l) < 100 {
		z, ok := exact(l)
		seen.when("too big ahead of a division by 0", !ok)
		seen.when("too big on the way alone", ok && z.fits())
		seen.when("1 over one is too big", inverted)
		seen.when("a sum is too big", !inverted)
	}
}

func onAxis(n *big.Int) cell { return cell{n, big.NewInt(0)} }

func TestMake(t *testing.T) { // P24.4
	seen := tally{}
	// All short lists of few numbers.
	near := []cell{is(0, 0), is(1, 0), is(-1, 0), is(0, 1), is(0, -1), is(1, 1), is(2, -1)}
	for _, a := range near {
		wantMake(t, seen, a)
		for _, b := range near {
			wantMake(t, seen, a, b)
			for _, c := range near {
				wantMake(t, seen, a, b, c)
				for _, d := range near {
					wantMake(t, seen, a, b, c, d)
				}
			}
		}
	}
	seen.least(t, 100, "made", "divided by 0")
	r := rand.New(rand.NewSource(2450))
	for n := range 400 {
		var l []cell
		for range 1 + r.Intn(12) {
			l = append(l, someCell(r, 1+n/20))
		}
		wantMake(t, seen, l...)
	}
	for _, z := range wholes() {
		wantMake(t, seen, z)
		wantMake(t, seen, is(0, 0), z)
		wantMake(t, seen, z, is(0, -3))
		wantMake(t, seen, z, z)
		wantMake(t, seen, z, is(1, 1), z)
		wantMake(t, seen, is(0, 0), is(0, 0), z)
	}
	seen.least(t, 20, "made", "divided by 0", "too big")
}

func TestMakeExamples(t *testing.T) { // P24.4
	for _, c := range []struct {
		l      []cell
		wanted num
	}{
		{[]cell{is(2, 0), is(3, 0)}, frac(7, 3, 0, 1)}, {[]cell{is(0, 0), is(1, -1)}, frac(1, 2, 1, 2)}, {[]cell{is(5, -7)}, frac(5, 1, -7, 1)}, {[]cell{is(0, 0)}, frac(0, 1, 0, 1)}, {[]cell{is(1, 0), is(0, 0), is(4, 0)}, frac(5, 1, 0, 1)}, {[]cell{is(0, 1), is(0, 1)}, frac(0, 1, 0, 1)}, {[]cell{is(1, 0), is(1, 0), is(1, 0)}, frac(3, 2, 0, 1)},
	} {
		z, e := hurwitz.Make(gausses(c.l)...)
		want(t, "Make", z, e, c.wanted.gauss())
	}
	for _, l := range [][]cell{
		{is(1, 0), is(0, 0)}, {is(0, 0), is(0, 0)}, {is(3, 0), is(1, 0), is(-1, 0)}, {is(3, 0), is(7, 2), is(0, 1), is(0, 1)}, {is(5, 0), is(4, 0), is(1, 0), is(-2, 0), is(1, 0)}, {is(2, 0), is(2, 0), is(2, 0), is(0, 0)},
	} {
		z, e := hurwitz.Make(gausses(l)...)
		wantNone(t, "Make that divides by 0", z, e, api.ErrZero)
	}
}

// What comes up first of a number that is too big and a division by 0; a number
// that is too big on the way, though the answer is not.
func TestMakeTooBig(t *testing.T) { // P24.4
	seen := tally{}
	m, i := onAxis(top()), cell{big.NewInt(0), top()}
	one, back, zero := is(1, 0), is(-1, 0), is(0, 0)
	for _, c := range []struct {
		l []cell
		e api.Errno
	}{
		{[]cell{m, one}, api.ErrBig}, {[]cell{m, back}, api.OK}, {[]cell{i, is(0, -1)}, api.ErrBig}, {[]cell{i, is(0, 1)}, api.OK}, {[]cell{zero, m}, api.OK}, {[]cell{one, m}, api.ErrBig}, {[]cell{back, m}, api.OK}, {[]cell{one, i}, api.OK}, {[]cell{m, m}, api.ErrBig},
		// The answer would be top less 4.
		{[]cell{is(-5, 0), zero, m, one}, api.ErrBig},
		// The answer would be 1 + i; behind these there is a division by 0 ahead of it.
		{[]cell{is(0, 1), zero, onAxis(negInt(top())), zero, m, one}, api.ErrBig},
		{[]cell{is(0, 1), zero, onAxis(negInt(top())), zero, m, one, zero, zero, back}, api.ErrZero},
		// A division by 0 behind what is too big, and ahead of it.
		{[]cell{one, zero, onAxis(negInt(top())), zero, back, zero, m, one}, api.ErrBig}, {[]cell{m, one, zero}, api.ErrZero}, {[]cell{m, one, one, back}, api.ErrZero}, {[]cell{one, back, zero, m, one}, api.ErrBig},
		// 1 over top + i has a Den of twice as many bytes.
		{[]cell{zero, {top(), big.NewInt(1)}}, api.ErrBig}, {[]cell{zero, zero, {top(), big.NewInt(1)}}, api.ErrBig}, {[]cell{{top(), big.NewInt(1)}}, api.OK},
	} {
		wantMake(t, seen, c.l...)
		if _, e := hurwitz.Make(gausses(c.l)...); e != c.e {
			t.Errorf("Make answers %v, want %v", e, c.e)
		}
	}
	seen.least(t, 2, "1 over one is too big", "a sum is too big", "too big on the way alone")
	seen.least(t, 1, "too big ahead of a division by 0")
}

// On both sides of the bound, for 1 over a number and for a sum.
func TestMakeAtTheBound(t *testing.T) { // P24.4
	seen := tally{}
	// 1 over r + i has the Den r r + 1.
	root := new(big.Int).Sqrt(more(top(), -1))
	half := new(big.Int).Sqrt(shared(past(), 2))
	for by := int64(-2); by <= 2; by++ {
		for k := range 4 {
			wantMake(t, seen, is(0, 0), cell{more(root, by), big.NewInt(1)}.turned(k))
			wantMake(t, seen, is(0, 0), is(0, 0), cell{more(root, by), big.NewInt(1)}.turned(k))
			// Both parts are of the same length here, so that the Den has a bit more.
			wantMake(t, seen, is(0, 0), cell{more(half, by), more(half, by-1)}.turned(k))
			wantMake(t, seen, is(0, 0), cell{more(half, by), more(half, by+3)}.turned(k))
			wantMake(t, seen, onAxis(more(top(), by-2)), is(1, 0).turned(k))
			wantMake(t, seen, is(1, 0), onAxis(more(top(), -5)).turned(k), is(by, 0))
			// n + 1/3 has the Num 3 n + 1.
			n := more(shared(top(), 3), by)
			wantMake(t, seen, onAxis(n).turned(k), is(3, 0).turned(k))
			wantMake(t, seen, is(2, 5), onAxis(n).turned(k), is(-3, 0).turned(k))
		}
	}
	seen.least(t, 10, "made", "1 over one is too big", "a sum is too big")
}

// 1 over a number has a Num that is too long, but no such Den; with the next
// quotient, which takes all but little of it away, it would be short enough.
func TestMakeInverseAlone(t *testing.T) { // P24.4
	seen := tally{}
	root := new(big.Int).Sqrt(shared(past(), 2))
	for n := int64(2); n < 9; n++ {
		for percent := int64(125); percent <= 145; percent++ {
			by := shared(timesInt(root, big.NewInt(percent)), 100*(2*n-1))
			l := []cell{is(-1, 0), is(0, -1), is(1, -1), is(-n, -n), onAxis(by).times(is(1, -1))}
			wantMake(t, seen, l...)
			_, wrong, inverted := madeOf(l)
			rest, fine, _ := madeOf(l[1:])
			if wrong == api.ErrBig && inverted && fine == api.OK {
				seen.when("it alone", rest.over1().plus(l[0].num()).fits())
			}
		}
	}
	seen.least(t, 10, "it alone", "made", "too big")
}

// A sum has a Num that is too long, but 1 over it would not, and no Den is.
func TestMakeSumAlone(t *testing.T) { // P24.4
	seen := tally{}
	for _, by := range []int64{6, 8, 9, 10, 11} {
		for n := int64(-2); n <= 2; n++ {
			// With 2 + i behind it it is (5 k + 1) (2 - i) / 5.
			k := onAxis(more(shared(past(), by), n)).times(is(2, -1))
			wantMake(t, seen, k, is(2, 1))
			wantMake(t, seen, is(0, 0), k, is(2, 1))
			wantMake(t, seen, is(0, 0), k.turn(), is(2, 1).turned(3))
		}
	}
	seen.least(t, 10, "made", "a sum is too big", "too big on the way alone")
}

func TestMakeManyQuotients(t *testing.T) { // P24.4
	seen := tally{}
	repeated := func(count int, l ...cell) []cell {
		var out []cell
		for len(out) < count {
			out = append(out, l...)
		}
		return out[:count]
	}
	for _, l := range [][]cell{{is(1, 0)}, {is(0, 0), is(1, 0)}, {is(2, 0), is(-1, 0)}, {is(1, 1), is(0, -1)}, {is(3, 0), is(-2, 2), is(1, 0)}} {
		wantMake(t, seen, repeated(api.MaxList, l...)...)
		z, e := hurwitz.Make(gausses(repeated(api.MaxList+1, l...))...)
		wantNone(t, "Make of one more than may be", z, e, api.ErrLong)
	}
	seen.least(t, 2, "made")
	// Forth and back: each is the one ahead of it turned over.
	half := ratio(top(), big.NewInt(2))
	for count, wanted := range map[int]num{0: {half, rat(0, 1)}, 1: {new(big.Rat).Inv(half), rat(0, 1)}} {
		long := append(repeated(api.MaxList-2-count, is(0, 0)), onAxis(shared(top(), 2)), is(2, 0))
		z, e := hurwitz.Make(gausses(long)...)
		want(t, "Make, forth and back", z, e, wanted.gauss())
		long[0] = is(0, 1)
		z, e = hurwitz.Make(gausses(long)...)
		want(t, "Make, forth and back, and i", z, e, wanted.plus(is(0, 1).num()).gauss())
	}
}

func TestMakeOfQuotients(t *testing.T) { // P24.4, P24.6
	seen := tally{}
	r := rand.New(rand.NewSource(2451))
	all := nums()
	for n := range 40 {
		all = append(all, someNum(r, 1+3*n))
	}
	for _, z := range all {
		l := z.quotients()
		wantMake(t, seen, l...)
		if _, wrong, _ := madeOf(l); wrong == api.OK {
			got, e := hurwitz.Make(slices.Collect(hurwitz.Quotients(z.gauss()))...)
			want(t, "Make of the quotients of "+brief(z), got, e, z.gauss())
		}
	}
	seen.least(t, 200, "made")
	seen.least(t, 1, "too big on the way alone")
	seen.never(t, "divided by 0")
	for _, z := range longs()[5:] {
		got, e := hurwitz.Make(slices.Collect(hurwitz.Quotients(z.gauss()))...)
		want(t, "Make of the quotients of "+brief(z), got, e, z.gauss())
	}
	// What may be itself may have come of numbers that may not: 1 over it.
	d := full(r, 700)
	z := num{ratio(full(r, 700), d), ratio(full(r, 700), d)}
	got, e := hurwitz.Make(slices.Collect(hurwitz.Quotients(z.gauss()))...)
	wantNone(t, "Make of quotients on the way to which one is too big", got, e, api.ErrBig)
}

func TestMakeRefuses(t *testing.T) { // P24.4
	z, e := hurwitz.Make()
	wantNone(t, "Make of none", z, e, api.ErrArg)
	z, e = hurwitz.Make([]api.Gauss{}...)
	wantNone(t, "Make of an empty list", z, e, api.ErrArg)
	one, zero, long := is(1, 0).gauss(), is(0, 0).gauss(), onAxis(top()).gauss()
	for _, w := range notWhole() {
		for _, l := range [][]api.Gauss{{w}, {w, one}, {one, w}, {one, w, one}, {one, zero, w}, {w, one, zero}, {w, long, one}, {long, one, w}, {w, w}} {
			z, e := hurwitz.Make(l...)
			wantNone(t, "Make of what is not whole", z, e, api.ErrArg)
		}
	}
	// ErrArg is ahead of ErrLong, wherever it stands; ErrLong of all that is
	// reckoned.
	l := slices.Repeat([]api.Gauss{one}, api.MaxList+1)
	for _, k := range []int{0, 1, 2000, api.MaxList - 1, api.MaxList} {
		for _, w := range []api.Gauss{{}, frac(1, 2, 0, 1).gauss(), frac(0, 1, 1, 2).gauss()} {
			wrong := slices.Clone(l)
			wrong[k] = w
			z, e := hurwitz.Make(wrong...)
			wantNone(t, "Make of many, one of which is not whole", z, e, api.ErrArg)
			z, e = hurwitz.Make(wrong[1:]...)
			if k > 0 {
				wantNone(t, "Make of as many as may be, one of which is not whole", z, e, api.ErrArg)
			}
		}
	}
	l[api.MaxList] = zero
	z, e = hurwitz.Make(l...)
	wantNone(t, "Make of many that divides by 0", z, e, api.ErrLong)
	l[api.MaxList], l[api.MaxList-1] = one, long
	z, e = hurwitz.Make(l...)
	wantNone(t, "Make of many that is too big", z, e, api.ErrLong)
	z, e = hurwitz.Make(slices.Repeat(l, 5)...)
	wantNone(t, "Make of very many", z, e, api.ErrLong)
}
