package words_test

import (
	"fmt"
	"math/rand"
	"testing"

	"tracery/api"
	"tracery/words"
)

// P16.5: the examples of the chapter.
func TestPutExamples(t *testing.T) {
	got, e := words.Put(word(1, -2), word(2, 2), word(1))
	wantWord(t, "Put of 1 -2", got, e, word(2, 2, -1))
	got, e = words.Put(word(3), word(1))
	wantRefused(t, "Put of 3", got, e, api.ErrArg)
	got, e = words.Put(nil)
	wantWord(t, "Put of none, without images", got, e, nil)
	got, e = words.Put(word(1, -1), word(5))
	wantWord(t, "Put of 1 -1", got, e, nil)
	got, e = words.Put(word(1, 2, -1), nil, word(4, -4, 3))
	wantWord(t, "Put of empty images", got, e, word(3))
	got, e = words.Put(word(-1, -2), word(1, 2), word(2, 3))
	wantWord(t, "Put of -1 -2", got, e, word(-2, -1, -3, -2))
}

// becomes is what w becomes, by the chapter's words.
func becomes(w []int, images [][]int) []int {
	var out []int
	for _, k := range w {
		if k > 0 {
			out = append(out, images[k-1]...)
		} else {
			out = append(out, back(images[-k-1])...)
		}
	}
	return taken(out)
}

// P16.5: words and images at random; the letters of w need not be short.
func TestPutOfMany(t *testing.T) {
	r := rand.New(rand.NewSource(165))
	for range 4000 {
		images := make([][]int, 1+r.Intn(4))
		for i := range images {
			images[i] = mixed(r, 1+r.Intn(2), r.Intn(8))
			if i > 0 && r.Intn(3) == 0 {
				images[i] = back(images[i-1])
			}
		}
		w := mixed(r, len(images), r.Intn(14))
		got, e := words.Put(w, images...)
		wantWord(t, fmt.Sprint("Put of ", w, images), got, e, becomes(w, images))
	}
	images := make([][]int, api.MaxMaps)
	for i := range images {
		images[i] = word(api.MaxMaps-i, -(i + 1), 5)
	}
	for range 50 {
		w := mixed(r, api.MaxMaps, 200)
		got, e := words.Put(w, images...)
		wantWord(t, "Put with all letters", got, e, becomes(w, images))
	}
}

// P16.5: the answer alone is bound, not what is on the way.
func TestPutAtTheBound(t *testing.T) {
	top := tallest(api.MaxList)
	half := api.MaxList / 2
	for i, x := range []struct {
		w      []int
		images [][]int
		want   []int
	}{
		{word(1), [][]int{top}, top},
		{word(-1), [][]int{top}, back(top)},
		{row(api.MaxList, 1), [][]int{word(7)}, row(api.MaxList, 7)},
		{row(half, 1), [][]int{word(7, 8)}, row(half, 7, 8)},
		{row(api.MaxList, 1), [][]int{nil}, nil},
		{row(api.MaxList, 1), [][]int{row(half, 1, -1)}, nil},
		{row(half, 1, -1), [][]int{top}, nil},
		{row(half, 1, 2), [][]int{top, back(top)}, nil},
		{behind(row(half, 1), row(half, 2)), [][]int{top, back(top)}, nil},
		{behind(row(half, 1), row(half-1, 2)), [][]int{top, back(top)}, top},
		{word(1, 2), [][]int{top, word(-2, -1)}, top[:api.MaxList-2]},
		{word(1, 2), [][]int{top, word(-2, 9)}, behind(top[:api.MaxList-1], word(9))},
	} {
		got, e := words.Put(x.w, x.images...)
		wantWord(t, fmt.Sprint("Put ", i), got, e, x.want)
	}
	for i, x := range []struct {
		w      []int
		images [][]int
	}{
		{word(1, 1), [][]int{top}},
		{word(1, 2), [][]int{top, word(9)}},
		{word(1, 2), [][]int{top, word(-2, 9, 9)}},
		{row(half+1, 1), [][]int{word(7, 8)}},
		{row(api.MaxList, 1), [][]int{word(7, 8)}},
		{row(api.MaxList, 1), [][]int{top}},
		{behind(row(half, 1), row(half-2, 2)), [][]int{top, back(top)}},
	} {
		got, e := words.Put(x.w, x.images...)
		wantRefused(t, fmt.Sprint("Put that is too long, ", i), got, e, api.ErrLong)
	}
}

// P16.5: letters without an image, behind what is wrong with the words.
func TestPutRefuses(t *testing.T) {
	top, long := tallest(api.MaxList), row(api.MaxList+1, 1)
	many := make([][]int, api.MaxMaps-1)
	for i, x := range []struct {
		w      []int
		images [][]int
		want   api.Errno
	}{
		{word(1), nil, api.ErrArg},
		{word(-1), nil, api.ErrArg},
		{word(2), [][]int{{1}}, api.ErrArg},
		{word(-2), [][]int{{1}}, api.ErrArg},
		{word(1, 1, 1, -2), [][]int{{1}}, api.ErrArg},
		{word(2, -2), [][]int{{1}}, api.ErrArg}, // though they cancel
		{word(64), many, api.ErrArg},
		{word(-64), many, api.ErrArg},
		{word(1, 1, 2), [][]int{top}, api.ErrArg},           // ahead of the answer's length
		{word(2), [][]int{long}, api.ErrLong},               // behind a word's length
		{long, nil, api.ErrLong},                            // likewise
		{row(api.MaxList+1, 2), [][]int{{1}}, api.ErrLong},  // likewise
		{word(2), [][]int{append(long, 0)}, api.ErrArg},     // of any word first
		{long, [][]int{{1}, {65}}, api.ErrArg},              // likewise
		{word(0), [][]int{long}, api.ErrArg},                // likewise
		{word(1), [][]int{{1}, nil, {0}}, api.ErrArg},       // of an image that is not asked for
		{word(1), [][]int{{1}, nil, long}, api.ErrLong},     // likewise
		{nil, append(make([][]int, 99), long), api.ErrLong}, // of one that no letter has
		{nil, append(make([][]int, 99), word(0)), api.ErrArg},
	} {
		got, e := words.Put(x.w, x.images...)
		wantRefused(t, fmt.Sprint("Put ", i), got, e, x.want)
	}
	got, e := words.Put(word(-64), append(many, word(3, 4))...)
	wantWord(t, "Put of the last letter", got, e, word(-4, -3))
	got, e = words.Put(word(64), append(make([][]int, 3*api.MaxList), word(1))...)
	wantWord(t, "Put with more images than letters", got, e, nil)
}
