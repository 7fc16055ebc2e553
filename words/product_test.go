package words_test

import (
	"fmt"
	"math"
	"math/rand"
	"testing"

	"tracery/api"
	"tracery/words"
)

// P16.2: the examples of the chapter.
func TestProductExamples(t *testing.T) {
	got, e := words.Mul(word(1, 2), word(-2, 3))
	wantWord(t, "Mul of 1 2, -2 3", got, e, word(1, 3))
	got, e = words.Mul()
	wantWord(t, "Mul of none", got, e, nil)
	got, e = words.Mul(nil, nil)
	wantWord(t, "Mul of empty words", got, e, nil)
	got, e = words.Mul(word(1, -1, 2))
	wantWord(t, "Mul of 1 -1 2", got, e, word(2))
	got, e = words.Pow(word(1, 2, -1), 3)
	wantWord(t, "Pow of 1 2 -1, 3", got, e, word(1, 2, 2, 2, -1))
	got, e = words.Pow(word(1), -2)
	wantWord(t, "Pow of 1, -2", got, e, word(-1, -1))
	got, e = words.Pow(word(1), 5000)
	wantRefused(t, "Pow of 1, 5000", got, e, api.ErrLong)
	got, e = words.Conj(word(2), word(1))
	wantWord(t, "Conj of 2 by 1", got, e, word(-1, 2, 1))
}

// P16.2: products of all pairs of words of few letters, of many at random.
func TestMulOfMany(t *testing.T) {
	l := few(3)
	for _, v := range l {
		for _, w := range l {
			got, e := words.Mul(v, w)
			wantWord(t, fmt.Sprint("Mul of ", v, w), got, e, taken(behind(v, w)))
			got, e = words.Conj(v, w)
			wantWord(t, fmt.Sprint("Conj of ", v, w), got, e, taken(behind(back(w), v, w)))
		}
	}
	r := rand.New(rand.NewSource(162))
	for range 3000 {
		list := make([][]int, r.Intn(8))
		for i := range list {
			list[i] = mixed(r, 1+r.Intn(2), r.Intn(12))
			if i > 0 && r.Intn(3) == 0 {
				list[i] = behind(back(list[i-1]), list[i])
			}
		}
		got, e := words.Mul(list...)
		wantWord(t, fmt.Sprint("Mul of ", list), got, e, taken(behind(list...)))
	}
}

// P16.2: what is on the way may be too long, if the product is not.
func TestMulAtTheBound(t *testing.T) {
	top := tallest(api.MaxList)
	half := tallest(api.MaxList / 2)
	for i, x := range []struct {
		l    [][]int
		want []int
	}{
		{[][]int{top}, top},
		{[][]int{half, half}, behind(half, half)},
		{[][]int{top, back(top)}, nil},
		{[][]int{top, top, back(top)}, top},
		{[][]int{top, top, back(top), back(top), word(5)}, word(5)},
		{[][]int{top, word(3), word(-3)}, top},
		{[][]int{top, word(3, 4), row(9, 6), row(9, -6), word(-4), word(-3)}, top},
		{[][]int{top, word(-2), word(-1, 7, 7)}, behind(top[:api.MaxList-2], word(7, 7))},
		{[][]int{word(9), top, word(-2)}, behind(word(9), top[:api.MaxList-1])},
	} {
		got, e := words.Mul(x.l...)
		wantWord(t, fmt.Sprint("Mul ", i), got, e, x.want)
	}
	for i, l := range [][][]int{
		{top, word(3)},
		{word(3), top},
		{half, half, word(1)},
		{top, top},
		{top, word(-2), word(7, 7)},
		{top, top, top, back(top)},
	} {
		got, e := words.Mul(l...)
		wantRefused(t, fmt.Sprint("Mul that is too long, ", i), got, e, api.ErrLong)
	}
}

// P16.2: how many words there are is not bound: what is left of all is.
func TestMulOfVeryMany(t *testing.T) {
	var ones, both [][]int
	for range api.MaxList {
		ones = append(ones, word(1))
		both = append(both, word(1), word(-1))
	}
	got, e := words.Mul(ones...)
	wantWord(t, "MaxList words of one letter", got, e, row(api.MaxList, 1))
	got, e = words.Mul(append(ones, word(1))...)
	wantRefused(t, "one more", got, e, api.ErrLong)
	got, e = words.Mul(append(ones, word(1), word(-1))...)
	wantWord(t, "one more and back", got, e, row(api.MaxList, 1))
	got, e = words.Mul(both...)
	wantWord(t, "there and back, often", got, e, nil)
	got, e = words.Mul(make([][]int, 3*api.MaxList)...)
	wantWord(t, "empty words", got, e, nil)
}

// P16.2: a power is the product of as many.
func TestPowOfMany(t *testing.T) {
	for _, w := range few(4) {
		for n := -5; n <= 5; n++ {
			want := taken(row(max(n, 0), w...))
			if n < 0 {
				want = taken(row(-n, back(w)...))
			}
			got, e := words.Pow(w, n)
			wantWord(t, fmt.Sprint("Pow of ", w, n), got, e, want)
		}
	}
}

// P16.2: n may be any number.
func TestPowOfAnyNumber(t *testing.T) {
	edges := []int{0, 1, -1, api.MaxList, -api.MaxList, api.MaxList + 1, -api.MaxList - 1, 1 << 31, 1 << 32, 1 << 52, 1 << 60, 1<<62 - 1, 1 << 62, -1 << 62, math.MaxInt, math.MinInt, math.MinInt + 1}
	for _, n := range edges {
		for _, w := range [][]int{nil, word(1, -1), word(2, 3, -3, -2), row(api.MaxList/2, 1, -1)} {
			got, e := words.Pow(w, n)
			wantWord(t, fmt.Sprint("Pow of the empty word, ", n), got, e, nil)
		}
		for _, w := range [][]int{word(1), word(-64), word(-3, 1, 3), word(1, 2), tallest(api.MaxList), row(1<<11, 5)} {
			got, e := words.Pow(w, n)
			switch length := math.Abs(float64(n)); {
			case n == 0:
				wantWord(t, "Pow 0", got, e, nil)
			case n == 1:
				wantWord(t, "Pow 1", got, e, w)
			case n == -1:
				wantWord(t, "Pow -1", got, e, back(w))
			case length > api.MaxList || len(w) > 1:
				wantRefused(t, fmt.Sprint("Pow of ", brief(w), n), got, e, api.ErrLong)
			default:
				wantWord(t, fmt.Sprint("Pow of ", w, n), got, e, row(api.MaxList, w[0]*(n/api.MaxList)))
			}
		}
	}
}

// P16.2: powers of words that are not round, at both sides of the bound.
func TestPowAtTheBound(t *testing.T) {
	for _, x := range []struct {
		w   []int
		n   int
		fit bool
	}{
		{word(1), 4096, true}, {word(1), 4097, false}, {word(1), -4096, true}, {word(1), -4097, false},
		{word(1, 2), 2048, true}, {word(1, 2), 2049, false}, {word(1, 2), -2049, false},
		{word(-3, 1, 3), 4094, true}, {word(-3, 1, 3), 4095, false}, {word(-3, 1, 3), -4094, true}, {word(-3, 1, 3), -4095, false},
		{word(-3, 1, 2, 4, 3), 1364, true}, {word(-3, 1, 2, 4, 3), 1365, false},
		{tallest(1365), 3, true}, {tallest(1366), 3, false},
		{behind(row(2047, 9), word(5, 6), row(2047, -9)), 1, true}, {behind(row(2047, 9), word(5), row(2047, -9)), 2, true},
		{behind(row(2047, 9), word(5), row(2047, -9)), -2, true}, {behind(row(2047, 9), word(5), row(2047, -9)), 3, false},
		{behind(row(2047, 9), word(5, 6), row(2047, -9)), -2, false},
	} {
		name := fmt.Sprintf("Pow of %d letters, %v .., %d", len(x.w), brief(x.w), x.n)
		got, e := words.Pow(x.w, x.n)
		if !x.fit {
			wantRefused(t, name, got, e, api.ErrLong)
			continue
		}
		times := x.w
		if x.n < 0 {
			times = back(x.w)
		}
		wantWord(t, name, got, e, taken(row(max(x.n, -x.n), times...)))
	}
}

// P16.2: Conj where the three together would be too long.
func TestConjAtTheBound(t *testing.T) {
	top := tallest(api.MaxList)
	for i, x := range []struct{ w, by, want []int }{
		{nil, top, nil},
		{word(5, -5), top, nil},
		{top, nil, top},
		{top, top, top},
		{top, back(top), top},
		{top, row(3, 1), behind(row(api.MaxList-4, 1), word(2, 1, 1, 1))},
		{word(5), row(2047, 9), behind(row(2047, -9), word(5), row(2047, 9))},
		{word(5, 6), row(2047, 9), behind(row(2047, -9), word(5, 6), row(2047, 9))},
		{row(9, 1), row(api.MaxList, 1), row(9, 1)},
	} {
		got, e := words.Conj(x.w, x.by)
		wantWord(t, fmt.Sprint("Conj ", i), got, e, x.want)
	}
	for i, x := range []struct{ w, by []int }{
		{word(5), row(2048, 9)},
		{word(5, 6, 7), row(2047, 9)},
		{top, word(9)},
		{word(5), top},
		{word(1, 5, -1), top},
	} {
		got, e := words.Conj(x.w, x.by)
		wantRefused(t, fmt.Sprint("Conj that is too long, ", i), got, e, api.ErrLong)
	}
}
