package words_test

import (
	"fmt"
	"math"
	"math/big"
	"slices"
	"testing"

	"tracery/api"
	"tracery/words"
)

// P16.6: the examples of the chapter, and the edges of letters and n.
func TestCountExamples(t *testing.T) {
	for _, x := range []struct {
		letters, n int
		want       uint64
		e          api.Errno
	}{
		{2, 3, 36, api.OK},
		{1, 1000, 2, api.OK},
		{64, 10, 0, api.ErrBig},
		{0, 1, 0, api.ErrArg},
		{1, 0, 1, api.OK},
		{64, 0, 1, api.OK},
		{1, 1, 2, api.OK},
		{64, 1, 128, api.OK},
		{64, 2, 128 * 127, api.OK},
		{1, math.MaxInt, 2, api.OK},
		{2, math.MaxInt, 0, api.ErrBig},
		{64, math.MaxInt, 0, api.ErrBig},
		{65, 1, 0, api.ErrArg},
		{65, 0, 0, api.ErrArg},
		{65, 1000, 0, api.ErrArg},
		{-1, 1, 0, api.ErrArg},
		{math.MinInt, 0, 0, api.ErrArg},
		{math.MaxInt, math.MaxInt, 0, api.ErrArg},
		{1, -1, 0, api.ErrArg},
		{64, -1, 0, api.ErrArg},
		{2, math.MinInt, 0, api.ErrArg},
	} {
		if got, e := words.Count(x.letters, x.n); got != x.want || e != x.e {
			t.Errorf("Count of %d, %d: %d, %v, not %d, %v", x.letters, x.n, got, e, x.want, x.e)
		}
	}
}

// P16.6, P16.8: 2 k (2 k - 1) to the power n - 1, at both sides of 2 to the
// power 64.
func TestCountIsTheFormula(t *testing.T) {
	for k := 1; k <= api.MaxMaps; k++ {
		want := big.NewInt(int64(2 * k))
		for n := 1; n <= 70; n++ {
			got, e := words.Count(k, n)
			if want.IsUint64() && (e != api.OK || got != want.Uint64()) || !want.IsUint64() && (e != api.ErrBig || got != 0) {
				t.Errorf("Count of %d, %d: %d, %v, not %v", k, n, got, e, want)
			}
			want.Mul(want, big.NewInt(int64(2*k-1)))
		}
	}
}

func all(t *testing.T, letters, most int) [][]int {
	t.Helper()
	seq, e := words.All(letters, most)
	if e != api.OK {
		t.Fatalf("All of %d, %d: %v", letters, most, e)
	}
	return slices.Collect(seq)
}

// P16.6: the examples of the chapter.
func TestAllExamples(t *testing.T) {
	for _, x := range []struct {
		letters, most int
		want          [][]int
	}{
		{1, 2, [][]int{{}, {1}, {-1}, {1, 1}, {-1, -1}}},
		{1, 0, [][]int{{}}},
		{64, 0, [][]int{{}}},
		{3, 1, [][]int{{}, {1}, {-1}, {2}, {-2}, {3}, {-3}}},
		{2, 2, [][]int{{}, {1}, {-1}, {2}, {-2}, {1, 1}, {1, 2}, {1, -2}, {-1, -1}, {-1, 2}, {-1, -2}, {2, 1}, {2, -1}, {2, 2}, {-2, 1}, {-2, -1}, {-2, -2}}},
	} {
		if got := all(t, x.letters, x.most); !slices.EqualFunc(got, x.want, slices.Equal[[]int]) {
			t.Errorf("All of %d, %d: %v", x.letters, x.most, got)
		}
	}
}

// P16.6: all short ones among all lists of two letters, in their order.
func TestAllIsWhole(t *testing.T) {
	var want [][]int
	for _, w := range few(6) {
		if len(taken(w)) == len(w) {
			want = append(want, w)
		}
	}
	if got := all(t, 2, 6); !slices.EqualFunc(got, want, slices.Equal[[]int]) {
		t.Errorf("%d words, not %d", len(got), len(want))
	}
}

// P16.6: what is out of its bounds is refused, letters ahead of lengths.
func TestAllRefuses(t *testing.T) {
	for _, x := range []struct {
		letters, most int
		want          api.Errno
	}{
		{0, 1, api.ErrArg}, {-1, 1, api.ErrArg}, {65, 1, api.ErrArg}, {math.MinInt, 0, api.ErrArg}, {math.MaxInt, 0, api.ErrArg},
		{1, -1, api.ErrArg}, {64, math.MinInt, api.ErrArg}, {0, -1, api.ErrArg},
		{1, api.MaxList + 1, api.ErrLong}, {64, math.MaxInt, api.ErrLong}, {0, api.MaxList + 1, api.ErrArg}, {65, math.MaxInt, api.ErrArg},
	} {
		if seq, e := words.All(x.letters, x.most); e != x.want || seq != nil {
			t.Errorf("All of %d, %d: %v", x.letters, x.most, e)
		}
	}
}

// P16.6: of one letter as many letters as may be.
func TestAllAtTheBound(t *testing.T) {
	seq, e := words.All(1, api.MaxList)
	if e != api.OK {
		t.Fatal(e)
	}
	n := 0
	for w := range seq {
		k := 1
		if n%2 == 0 { // of the two of a length, the one with 1 is first
			k = -1
		}
		if !slices.Equal(w, row((n+1)/2, k)) {
			t.Fatalf("word %d: %d letters, %v ..", n, len(w), brief(w))
		}
		n++
	}
	if n != 2*api.MaxList+1 {
		t.Errorf("%d words", n)
	}
}

// P16.6: it may be left at any time, and gone over again, and within itself.
func TestAllIsLeft(t *testing.T) {
	want := all(t, 2, 3)
	seq, e := words.All(2, 3)
	if e != api.OK {
		t.Fatal(e)
	}
	for stop := range want {
		var got [][]int
		for w := range seq {
			got = append(got, w)
			if len(got) == stop+1 {
				break
			}
		}
		if !slices.EqualFunc(got, want[:stop+1], slices.Equal[[]int]) {
			t.Errorf("left behind %d: %v", stop+1, got)
		}
	}
	i := 0
	for v := range seq {
		j := 0
		for w := range seq {
			if !slices.Equal(w, want[j]) {
				t.Fatalf("within: place %d: %v", j, w)
			}
			if j++; j > i {
				break
			}
		}
		if !slices.Equal(v, want[i]) {
			t.Fatalf("without: place %d: %v", i, v)
		}
		i++
	}
	if i != len(want) {
		t.Errorf("%d words, not %d", i, len(want))
	}
}

// P16.6: left early it ends, however many words were still to come.
func TestAllOfMostLettersIsLeft(t *testing.T) {
	seq, e := words.All(api.MaxMaps, api.MaxList)
	if e != api.OK {
		t.Fatal(e)
	}
	n := 0
	for w := range seq {
		if n++; n == 1+128+128*127+1 {
			if !slices.Equal(w, word(1, 1, 1)) {
				t.Errorf("the first word of three letters is %v", w)
			}
			break
		}
		if n == 1+128+128*127 && !slices.Equal(w, word(-64, -64)) {
			t.Errorf("the last word of two letters is %v", w)
		}
	}
}

// P16.6: each word is new: what is done to one is not seen in another one.
func TestAllIsNew(t *testing.T) {
	want := all(t, 2, 4)
	seq, e := words.All(2, 4)
	if e != api.OK {
		t.Fatal(e)
	}
	var kept [][]int
	for w := range seq {
		if !slices.Equal(w, want[len(kept)]) {
			t.Fatalf("place %d: %v, not %v", len(kept), w, want[len(kept)])
		}
		spoil(w)
		kept = append(kept, w)
	}
	for i, w := range kept {
		for _, k := range w[:cap(w)] {
			if k != spoilt {
				t.Fatalf("word %d was written to again: %v", i, w)
			}
		}
	}
	again := slices.Collect(seq)
	if !slices.EqualFunc(again, want, slices.Equal[[]int]) {
		t.Error(fmt.Sprint("gone over again: ", len(again), " words"))
	}
}
