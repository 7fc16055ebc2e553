package words_test

import (
	"fmt"
	"math/rand"
	"slices"
	"testing"

	"tracery/api"
	"tracery/words"
)

func wantCmp(t *testing.T, v, w []int, want int) {
	t.Helper()
	if got, e := words.Cmp(v, w); e != api.OK || got != want {
		t.Errorf("Cmp of %v .., %v ..: %d, %v, not %d", brief(v), brief(w), got, e, want)
	}
	if got, e := words.Cmp(w, v); e != api.OK || got != -want {
		t.Errorf("Cmp of %v .., %v ..: %d, %v, not %d", brief(w), brief(v), got, e, -want)
	}
}

// P16.4: the examples of the chapter, and the edges of lengths and letters.
func TestCmpExamples(t *testing.T) {
	top := row(api.MaxList, 1)
	last := behind(top[1:], word(-1))
	for _, x := range []struct {
		v, w []int
		want int
	}{
		{word(-1), word(2), -1},
		{word(2), word(1, 1), -1},
		{word(1), word(-1), -1},
		{nil, nil, 0},
		{nil, word(1), -1},
		{word(-64), word(1, 1), -1},
		{word(-64), word(64), 1},
		{word(1, -1), word(1, 1), 1},
		{word(1, -1), nil, 1}, // as they stand
		{word(1, -1), word(2, -2), -1},
		{word(3, 1, 2), word(3, -1, 1), -1},
		{word(3, 1, 2), word(3, 1, 2), 0},
		{top, last, -1},
		{top[1:], top, -1},
		{row(api.MaxList-1, -64), top, -1},
		{last, slices.Clone(last), 0},
	} {
		wantCmp(t, x.v, x.w, x.want)
	}
}

// place is where a letter stands in 1, -1, 2, -2 ..
func place(k int) int {
	return slices.Index(order(), k)
}

func order() []int {
	var l []int
	for k := 1; k <= api.MaxMaps; k++ {
		l = append(l, k, -k)
	}
	return l
}

// P16.4: all letters against all, words at random.
func TestCmpOfMany(t *testing.T) {
	for i, k := range order() {
		for j, l := range order() {
			want := 0
			if i < j {
				want = -1
			} else if i > j {
				want = 1
			}
			wantCmp(t, word(k), word(l), want)
		}
	}
	r := rand.New(rand.NewSource(1640))
	for range 4000 {
		n := r.Intn(6)
		v, w := mixed(r, 3, n), mixed(r, 3, n+r.Intn(2))
		want := -1
		if len(v) == len(w) {
			want = 0
			for i := range v {
				if v[i] != w[i] {
					want = 1
					if place(v[i]) < place(w[i]) {
						want = -1
					}
					break
				}
			}
		}
		wantCmp(t, v, w, want)
	}
}

// P16.4: the order is one: what is sorted by it rises, from all beginnings.
func TestCmpSorts(t *testing.T) {
	l := few(4)
	r := rand.New(rand.NewSource(1641))
	for range 3 {
		r.Shuffle(len(l), func(i, j int) { l[i], l[j] = l[j], l[i] })
		slices.SortFunc(l, func(v, w []int) int {
			n, _ := words.Cmp(v, w)
			return n
		})
		for i, w := range few(4) { // which are made by the order
			if !slices.Equal(w, l[i]) {
				t.Fatal(fmt.Sprint("place ", i, ": ", l[i], ", not ", w))
			}
		}
	}
}
