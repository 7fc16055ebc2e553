package gauss_test

import (
	"math/big"
	"math/rand"
	"slices"
	"testing"

	"tracery/api"
	"tracery/gauss"
)

type ofMany = func(l ...api.Gauss) (api.Gauss, api.Errno)

func lists() map[string]struct {
	does  ofMany
	none  pair
	wants func(z, w pair) pair
} {
	return map[string]struct {
		does  ofMany
		none  pair
		wants func(z, w pair) pair
	}{
		"the sum":     {gauss.Sum, short(0, 0), pair.add},
		"the product": {gauss.Product, short(1, 0), pair.mul},
	}
}

func numbersOf(l []pair) []api.Gauss {
	var out []api.Gauss
	for _, z := range l {
		out = append(out, z.number())
	}
	return out
}

func TestLists(t *testing.T) { // P4.4
	r := rand.New(rand.NewSource(11))
	for name, op := range lists() {
		check := func(l []pair) {
			wanted := op.none
			for _, z := range l {
				wanted = op.wants(wanted, z)
			}
			got, e := op.does(numbersOf(l)...)
			wantPair(t, name+" of some", got, e, wanted)
		}
		check(nil)
		check([]pair{})
		check(grid())
		ones(func(z pair) { check([]pair{z}) })
		twoes(func(z, w pair) { check([]pair{z, w}) })
		for range 200 {
			var l []pair
			most := 1 + r.Intn(8)
			for range r.Intn(40) {
				l = append(l, odd(r, most))
			}
			check(l)
		}
		for range 3 {
			check([]pair{odd(r, 512), odd(r, 512), odd(r, 512), odd(r, 512)})
		}
	}
}

func TestListsAtTheirBound(t *testing.T) { // P4.4
	many := slices.Repeat([]api.Gauss{short(1, 1).number()}, api.MaxList+1)
	got, e := gauss.Sum(many[1:]...)
	want(t, "1 + i, as often as may be", got, e, short(api.MaxList, api.MaxList).number())
	got, e = gauss.Product(many[1:]...)
	want(t, "1 + i to the power 4096", got, e, pair{ofInt(twos(api.MaxList / 2)), new(big.Rat)}.number())
	harmonic := make([]api.Gauss, api.MaxList)
	sum, parts := new(big.Rat), [2]*big.Rat{new(big.Rat), new(big.Rat)}
	for i := range harmonic {
		x := big.NewRat(1, int64(i+1))
		sum.Add(sum, x)
		parts[i%2].Add(parts[i%2], x)
		harmonic[i] = pair{x, new(big.Rat)}.number()
		if i%2 == 1 {
			harmonic[i] = pair{new(big.Rat), x}.number()
		}
	}
	got, e = gauss.Sum(harmonic...)
	want(t, "1 over all", got, e, pair{parts[0], parts[1]}.number())
	for name, op := range lists() {
		got, e := op.does(many...)
		wantRefused(t, name+" of too many", got, e, api.ErrLong)
		for _, z := range wrong() {
			for _, at := range []int{0, 2000, api.MaxList} {
				l := slices.Clone(many)
				l[at] = z
				got, e := op.does(l...)
				wantRefused(t, name+" of too many, and a wrong one", got, e, api.ErrArg)
			}
		}
		long := slices.Repeat([]api.Gauss{good()[4]}, api.MaxList+1)
		got, e = op.does(long...)
		wantRefused(t, name+" of too many, and too long", got, e, api.ErrLong)
		got, e = op.does(long[1:]...)
		wantRefused(t, name+", too long", got, e, api.ErrBig)
	}
}

func TestListsRefuseWrongOnes(t *testing.T) { // P4.4
	most := good()[4]
	for name, op := range lists() {
		for _, z := range wrong() {
			for _, l := range [][]api.Gauss{{z}, {z, most, most}, {most, z, most}, {most, most, z}, {short(0, 0).number(), z}} {
				got, e := op.does(l...)
				wantRefused(t, name+" with a wrong one", got, e, api.ErrArg)
			}
		}
	}
}

func TestListsLongOnTheWay(t *testing.T) { // P4.4
	r := rand.New(rand.NewSource(12))
	third := pair{big.NewRat(1, 3), big.NewRat(-1, 5)}
	for _, count := range []int{1, 2, 7, 10, 20, 40} {
		var apart, factors []pair
		for range count {
			z := pair{ratOfTwo(exactly(r, 1000), exactly(r, 1010)), ratOfTwo(exactly(r, 1000), exactly(r, 1010))}
			apart = append(apart, z, z.neg())
			a := pair{ratOfTwo(exactly(r, 100), exactly(r, 90)), ratOfTwo(exactly(r, 80), exactly(r, 90))}
			factors = append(factors, a, short(1, 0).quo(a))
			b := pair{ofInt(exactly(r, 1000)), new(big.Rat)}
			factors = append(factors, b, short(1, 0).quo(b))
		}
		for _, l := range [][]pair{apart, factors} {
			if count > 1 {
				r.Shuffle(len(l), func(i, j int) { l[i], l[j] = l[j], l[i] })
			}
		}
		got, e := gauss.Sum(numbersOf(append(apart, third))...)
		want(t, "what is left of a sum", got, e, third.number())
		got, e = gauss.Product(numbersOf(append(factors, third))...)
		want(t, "what is left of a product", got, e, third.number())
		if count > 1 {
			got, e = gauss.Sum(numbersOf(apart[1:])...)
			want(t, "a sum less one", got, e, apart[0].neg().number())
			got, e = gauss.Sum(numbersOf(apart[2:])...)
			wantPair(t, "a sum less two", got, e, apart[0].add(apart[1]).neg())
			got, e = gauss.Product(numbersOf(factors[1:])...)
			wantPair(t, "a product less one", got, e, short(1, 0).quo(factors[0]))
		}
		got, e = gauss.Product(numbersOf(append(factors, short(0, 0)))...)
		want(t, "a product with 0", got, e, short(0, 0).number())
	}
}

// canceling are lists of long numbers whose sum is 0, whose product is 1.
func canceling(count int) (apart, factors []pair) {
	r := rand.New(rand.NewSource(16))
	for range count {
		z := pair{ratOfTwo(exactly(r, 900), exactly(r, 1024)), ratOfTwo(exactly(r, 1024), exactly(r, 900))}
		apart = append(apart, z, z.neg())
		b := pair{new(big.Rat), ratOfTwo(exactly(r, 1000), exactly(r, 1000))}
		factors = append(factors, b, short(1, 0).quo(b))
	}
	r.Shuffle(len(apart), func(i, j int) {
		apart[i], apart[j] = apart[j], apart[i]
		factors[i], factors[j] = factors[j], factors[i]
	})
	return apart, factors
}

func TestLongListsAtTheBound(t *testing.T) { // P4.4
	most, half := ofInt(bigOf(top())), ofInt(twos(8*api.MaxWhole-1))
	none, one := new(big.Rat), big.NewRat(1, 1)
	for _, count := range []int{7, 12, 18} {
		apart, factors := canceling(count)
		for _, z := range good() {
			got, e := gauss.Sum(append(numbersOf(apart), z)...)
			want(t, "what is left of a sum", got, e, z)
			got, e = gauss.Product(append(numbersOf(factors), z)...)
			want(t, "what is left of a product", got, e, z)
		}
		for _, l := range [][]pair{{{most, none}, {one, none}}, {{none, most}, {none, one}}, {{most, one}, {big.NewRat(1, 2), one}}, {{one, half}, {one, half}}} {
			got, e := gauss.Sum(numbersOf(append(apart, l...))...)
			wantRefused(t, "a sum that is too long", got, e, api.ErrBig)
		}
		two := short(2, 0)
		least := new(big.Rat).Inv(half)
		for _, l := range [][]pair{{{half, none}, two}, {{one, half}, two}, {{least, none}, short(1, 0).quo(two)}, {{one, least}, short(1, 0).quo(two)}} {
			got, e := gauss.Product(numbersOf(append(factors, l...))...)
			wantRefused(t, "a product that is too long", got, e, api.ErrBig)
		}
	}
}

// powerOfTwo are factors, of at most 8000 bits each, whose product is 2^n.
func powerOfTwo(n uint) []api.Gauss {
	var l []api.Gauss
	for ; n > 8000; n -= 8000 {
		l = append(l, pair{ofInt(twos(8000)), new(big.Rat)}.number())
	}
	return append(l, pair{ofInt(twos(n)), new(big.Rat)}.number())
}

// Modulo 2^p - 1 such powers are 1: who reckons by rests must look again.
func TestLongPowersOfTwoAreNotShort(t *testing.T) { // P4.4
	for _, p := range []uint{9689, 9941, 11213, 19937, 21701, 23209, 44497, 86243} {
		for _, times := range []uint{1, 7, 9, 27, 40} {
			l := powerOfTwo(p * times)
			got, e := gauss.Product(l...)
			wantRefused(t, "a power of 2", got, e, api.ErrBig)
			inverse := short(1, 0).quo(pairOf(l[0])).number()
			for range len(l) - 1 {
				l = append(l, inverse)
			}
			got, e = gauss.Product(l...)
			want(t, "a power of 2 brought back", got, e, l[len(l)/2])
		}
	}
}

func TestListsAreLeftAlone(t *testing.T) { // P4.4
	for _, op := range lists() {
		room := numbersOf(grid())
		before := slices.Clone(room)
		if _, e := op.does(room[1:9]...); e != api.OK || !slices.Equal(room, before) {
			t.Errorf("the list is %v now (%v)", room, e)
		}
	}
}
