package frac_test

import (
	"math/big"
	"math/rand"
	"slices"
	"testing"

	"tracery/api"
	"tracery/frac"
)

// longest are two fractions, the lesser one first, with nearly as many
// quotients as may be; nearly all of them are 1, and alike.
func longest() (x, y api.Frac) {
	a, b, c := big.NewInt(0), big.NewInt(1), big.NewInt(1)
	for c.BitLen() < 8*api.MaxWhole-1 {
		a, b, c = b, c, new(big.Int).Add(b, c)
	}
	l := []*big.Rat{new(big.Rat).SetFrac(c, b), new(big.Rat).SetFrac(b, a)}
	slices.SortFunc(l, (*big.Rat).Cmp)
	return fraction(l[0]), fraction(l[1])
}

// quotientsOf are those that the chapter's words say.
func quotientsOf(x *big.Rat) []api.Whole {
	var l []api.Whole
	for {
		first := floorOf(x)
		l = append(l, number(first))
		x = new(big.Rat).Sub(x, new(big.Rat).SetInt(first))
		if x.Sign() == 0 {
			return l
		}
		x.Inv(x)
	}
}

func TestQuotients(t *testing.T) { // P3.6
	check := func(r *big.Rat) {
		all := frac.Quotients(fraction(r))
		wanted := quotientsOf(r)
		if got := slices.Collect(all); !slices.Equal(got, wanted) {
			t.Fatalf("the quotients of %v are %v", r, got)
		}
		if again := slices.Collect(all); !slices.Equal(again, wanted) {
			t.Fatalf("the quotients of %v, once more, are %v", r, again)
		}
	}
	ones(check)
	for _, x := range good() {
		check(ratOf(x))
	}
	if got := slices.Collect(frac.Quotients(over(-7, 3))); !slices.Equal(got, numbers(-3, 1, 2)) {
		t.Errorf("the quotients of -7/3 are %v", got)
	}
	for _, x := range wrong() {
		for got := range frac.Quotients(x) {
			t.Fatalf("a wrong one has the quotient %v", got)
		}
	}
}

func TestQuotientsLeftEarly(t *testing.T) { // P3.6
	all := frac.Quotients(over(-355, 113)) // -4 1 6 16
	wanted := numbers(-4, 1, 6, 16)
	for most := 1; most <= len(wanted); most++ {
		var got []api.Whole
		for quotient := range all {
			got = append(got, quotient)
			if len(got) == most {
				break
			}
		}
		if !slices.Equal(got, wanted[:most]) {
			t.Errorf("the first %d are %v", most, got)
		}
	}
	for outer := range all {
		if got := slices.Collect(all); !slices.Equal(got, wanted) {
			t.Errorf("within a walk, at %v, they are %v", outer, got)
		}
	}
}

func TestQuotientsOfTheLongest(t *testing.T) { // P3.6
	x, _ := longest()
	count := 0
	for quotient := range frac.Quotients(x) {
		count++
		if quotient != small(1) && quotient != small(2) {
			t.Fatalf("the quotient %d is %v", count, quotient)
		}
	}
	if count < 11000 {
		t.Errorf("there are %d", count)
	}
	got, e := frac.Make(slices.Collect(frac.Quotients(x))...)
	wantRefused(t, "of more than a list has", got, e, api.ErrLong)
}

// madeOf reckons by math/big, step by step.
func madeOf(l []api.Whole) (*big.Rat, api.Errno) {
	x := new(big.Rat).SetInt(bigOf(l[len(l)-1]))
	if !fits(x) {
		return nil, api.ErrBig
	}
	for _, quotient := range slices.Backward(l[:len(l)-1]) {
		if x.Sign() == 0 {
			return nil, api.ErrZero
		}
		x.Add(x.Inv(x), new(big.Rat).SetInt(bigOf(quotient)))
		if !fits(x) {
			return nil, api.ErrBig
		}
	}
	return x, api.OK
}

func checkMake(t *testing.T, l []api.Whole) {
	t.Helper()
	got, e := frac.Make(l...)
	wanted, refused := madeOf(l)
	if refused != api.OK {
		wantRefused(t, "what quotients make", got, e, refused)
		return
	}
	want(t, "what quotients make", got, e, fraction(wanted))
}

func TestMake(t *testing.T) { // P3.6
	for n := range 7 * 7 * 7 * 7 {
		var l []api.Whole
		for left := n; len(l) == 0 || left > 0; left /= 7 {
			l = append(l, small(int64(left%7)-3))
		}
		checkMake(t, l)
	}
	r := rand.New(rand.NewSource(9))
	for range 3000 {
		var l []api.Whole
		for range 1 + r.Intn(12) {
			l = append(l, number(odds(r, 1+r.Intn(8))))
		}
		checkMake(t, l)
	}
	for _, x := range []struct {
		l         []int64
		num, den  int64
		isRefused api.Errno
	}{
		{[]int64{-3, 1, 2}, -7, 3, api.OK},
		{[]int64{2, 0}, 0, 0, api.ErrZero},
		{[]int64{1, 0, 4}, 5, 1, api.OK},
		{[]int64{0}, 0, 1, api.OK},
		{[]int64{0, -5}, -1, 5, api.OK},
		{[]int64{1, 1}, 2, 1, api.OK},
		{[]int64{7, 1, -1}, 0, 0, api.ErrZero},
	} {
		got, e := frac.Make(numbers(x.l...)...)
		if x.isRefused != api.OK {
			wantRefused(t, "what they make", got, e, x.isRefused)
			continue
		}
		want(t, "what they make", got, e, over(x.num, x.den))
	}
}

func TestMakeRefusesInOrder(t *testing.T) { // P3.6
	got, e := frac.Make()
	wantRefused(t, "of none", got, e, api.ErrArg)
	many := slices.Repeat(numbers(1), api.MaxList+1)
	for _, a := range wrongWholes() {
		for _, l := range [][]api.Whole{{a}, {a, small(0)}, {small(0), a}, {small(1), a, small(0)}, {wide(api.MaxWide), a}, {a, wide(api.MaxWide)}} {
			got, e := frac.Make(l...)
			wantRefused(t, "with a wrong one", got, e, api.ErrArg)
		}
		for _, at := range []int{0, 2000, api.MaxList} {
			l := slices.Clone(many)
			l[at] = a
			got, e := frac.Make(l...)
			wantRefused(t, "too many with a wrong one", got, e, api.ErrArg)
		}
	}
	got, e = frac.Make(many...)
	wantRefused(t, "too many", got, e, api.ErrLong)
	got, e = frac.Make(slices.Repeat(numbers(0), api.MaxList+1)...)
	wantRefused(t, "too many noughts", got, e, api.ErrLong)
	checkMake(t, many[1:])
	got, e = frac.Make(slices.Repeat(numbers(0), api.MaxList)...)
	wantRefused(t, "as many noughts as may be", got, e, api.ErrZero)
}

func TestMakeAtTheBound(t *testing.T) { // P3.6
	all := wide(api.MaxWide)
	zero, one := small(0), small(1)
	half := number(new(big.Int).Rsh(bigOf(past()), 1))
	for _, x := range []struct {
		what string
		l    []api.Whole
		e    api.Errno
	}{
		{"the greatest", []api.Whole{top()}, api.OK},
		{"the least", []api.Whole{zero, below(top())}, api.OK},
		{"there and back", []api.Whole{zero, zero, top()}, api.OK},
		{"one past it", []api.Whole{past()}, api.ErrBig},
		{"one past it, the other way", []api.Whole{zero, below(past())}, api.ErrBig},
		{"as wide as may be", []api.Whole{all}, api.ErrBig},
		{"1 more", []api.Whole{one, zero, top()}, api.ErrBig},
		{"1 less", []api.Whole{small(-1), zero, top()}, api.OK},
		{"above and below too long together", []api.Whole{one, top()}, api.ErrBig},
		{"both still short enough", []api.Whole{one, plus(top(), -1)}, api.OK},
		{"too long on the way alone", []api.Whole{below(half), zero, half, zero, half}, api.ErrBig},
		{"never too long", []api.Whole{half, zero, plus(below(half), 1), zero, half}, api.OK},
		{"no fraction but a quotient too long", []api.Whole{past(), small(-1)}, api.OK},
		{"far too long", []api.Whole{all, top()}, api.ErrBig},
		{"too long for a whole number by 1", []api.Whole{all, one}, api.ErrBig},
		{"too long below 0", []api.Whole{below(all), small(-1)}, api.ErrBig},
		{"0 first, then too long", []api.Whole{past(), zero}, api.ErrZero},
		{"0 first, then too long behind it", []api.Whole{all, small(5), zero}, api.ErrZero},
		{"too long first, then 0", []api.Whole{zero, past()}, api.ErrBig},
		{"too long first, then 0 by a sum", []api.Whole{one, zero, zero, past()}, api.ErrBig},
		{"a sum that is 0, then too long", []api.Whole{past(), below(half), zero, half}, api.ErrZero},
	} {
		got, e := frac.Make(x.l...)
		if e != x.e {
			t.Errorf("%s: %s, %v, want %v", x.what, brief(got), e, x.e)
		}
		checkMake(t, x.l)
	}
}

func TestMakeLeavesItsListAlone(t *testing.T) { // P3.6
	room := numbers(3, 7, 15, 1, 99, 98)
	before := slices.Clone(room)
	got, e := frac.Make(room[:4]...)
	want(t, "what four of six make", got, e, over(355, 113))
	if !slices.Equal(room, before) {
		t.Errorf("the list is %v now", room)
	}
}
