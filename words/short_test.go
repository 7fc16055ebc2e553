package words_test

import (
	"fmt"
	"math/rand"
	"slices"
	"testing"

	"tracery/api"
	"tracery/words"
)

// P16.1: the examples of the chapter.
func TestShortExamples(t *testing.T) {
	for _, x := range []struct{ w, want []int }{
		{word(1, 2, -2, -1, 3), word(3)},
		{word(1, -1), nil},
		{nil, nil},
		{word(1, 1), word(1, 1)},
		{word(-64, 64, 64), word(64)},
		{word(1, 2, -1, -2), word(1, 2, -1, -2)},
		{word(1, -1, 1), word(1)},
		{word(2, 1, -1, 1, -1, -2, 5, -5), nil},
	} {
		got, e := words.Short(x.w...)
		wantWord(t, fmt.Sprint("Short of ", x.w), got, e, x.want)
	}
	got, e := words.Short(0)
	wantRefused(t, "Short of 0", got, e, api.ErrArg)
	got, e = words.Inverse(1, 2, -3)
	wantWord(t, "Inverse of 1 2 -3", got, e, word(3, -2, -1))
	got, e = words.Inverse(1, -1)
	wantWord(t, "Inverse of 1 -1", got, e, word(1, -1))
	got, e = words.Inverse()
	wantWord(t, "Inverse of none", got, e, nil)
}

// P16.1: of all words of few letters, and of many at random.
func TestShortOfMany(t *testing.T) {
	l := few(6)
	r := rand.New(rand.NewSource(161))
	for range 2000 {
		l = append(l, mixed(r, 1+r.Intn(3), r.Intn(60)))
	}
	for range 20 {
		l = append(l, mixed(r, 1+r.Intn(64), api.MaxList-r.Intn(2)))
	}
	for _, w := range l {
		want := taken(w)
		got, e := words.Short(w...)
		wantWord(t, fmt.Sprint("Short of ", brief(w)), got, e, want)
		got, e = words.Inverse(w...)
		wantWord(t, fmt.Sprint("Inverse of ", brief(w)), got, e, back(w))
		again := must(t, got, e)
		got, e = words.Inverse(again...)
		wantWord(t, fmt.Sprint("Inverse of the inverse of ", brief(w)), got, e, w)
	}
}

// P16.1: words as long as may be, such that cancel wholly among them.
func TestShortAtTheBound(t *testing.T) {
	half := tallest(api.MaxList / 2)
	for i, x := range []struct{ w, want []int }{
		{behind(half, back(half)), nil},
		{row(api.MaxList/2, 1, -1), nil},
		{row(api.MaxList, 7), row(api.MaxList, 7)},
		{behind(word(3), row(api.MaxList/2-1, 1, -1), word(3)), word(3, 3)},
	} {
		got, e := words.Short(x.w...)
		wantWord(t, fmt.Sprint("word ", i), got, e, x.want)
	}
	if !slices.Equal(taken(behind(half, back(half))), nil) {
		t.Error("a word and its inverse are not the empty word")
	}
}
