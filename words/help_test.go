package words_test

import (
	"math/rand"
	"slices"
	"testing"

	"tracery/api"
)

// word writes a list of letters out.
func word(w ...int) []int { return w }

// row is n times w, one behind the other.
func row(n int, w ...int) []int { return slices.Repeat(w, n) }

// behind is one list behind the other, in memory of its own.
func behind(l ...[]int) []int { return slices.Concat(l...) }

// back goes by the chapter's words: turned round, each letter its inverse.
func back(w []int) []int {
	var out []int
	for i := len(w) - 1; i >= 0; i-- {
		out = append(out, -w[i])
	}
	return out
}

// taken is the short form, by taking out the last pair that cancels, again and
// again: another order than that of one who reads from the left.
func taken(w []int) []int {
	w = slices.Clone(w)
	for i := len(w) - 2; i >= 0; i-- {
		if i+1 < len(w) && w[i]+w[i+1] == 0 {
			w = slices.Delete(w, i, i+2)
		}
	}
	return w
}

// tallest is a short word of n letters that is round and no power, if n is
// above 1.
func tallest(n int) []int {
	w := row(n, 1)
	w[n-1] = 2
	return w
}

// mixed is a word of n letters, of the letters 1 to k and their inverses.
func mixed(r *rand.Rand, k, n int) []int {
	w := make([]int, n)
	for i := range w {
		w[i] = 1 + r.Intn(k)
		if r.Intn(2) == 0 {
			w[i] = -w[i]
		}
	}
	return w
}

// anyShort is a short word of n letters.
func anyShort(r *rand.Rand, k, n int) []int {
	w := mixed(r, k, n)
	for i := 1; i < n; i++ {
		if w[i]+w[i-1] == 0 {
			w[i] = w[i-1]
		}
	}
	return w
}

// anyRound is a round word of n letters, of more than one letter.
func anyRound(r *rand.Rand, k, n int) []int {
	for {
		w := anyShort(r, k, n)
		if n == 0 || w[0]+w[n-1] != 0 {
			return w
		}
	}
}

// few are all lists of the letters 1, -1, 2, -2 of at most n letters, short or
// not.
func few(n int) [][]int {
	all := [][]int{{}}
	for from := 0; n > 0; n-- {
		to := len(all)
		for _, w := range all[from:to] {
			for _, k := range []int{1, -1, 2, -2} {
				all = append(all, behind(w, word(k)))
			}
		}
		from = to
	}
	return all
}

func brief(w []int) []int {
	if len(w) > 12 {
		return w[:12:12]
	}
	return w
}

func wantWord(t *testing.T, what string, got []int, e api.Errno, want []int) {
	t.Helper()
	if e != api.OK || !slices.Equal(got, want) {
		t.Errorf("%s: %d letters, %v .., %v, not %d letters, %v ..", what, len(got), brief(got), e, len(want), brief(want))
	}
}

// wantRefused: beside an error no list is told.
func wantRefused(t *testing.T, what string, got []int, e, want api.Errno) {
	t.Helper()
	if e != want || len(got) != 0 {
		t.Errorf("%s: %d letters, %v, not %v", what, len(got), e, want)
	}
}

func wantBool(t *testing.T, what string, got bool, e api.Errno, want bool) {
	t.Helper()
	if e != api.OK || got != want {
		t.Errorf("%s: %v, %v, not %v", what, got, e, want)
	}
}

func must(t *testing.T, w []int, e api.Errno) []int {
	t.Helper()
	if e != api.OK {
		t.Fatalf("refused: %v", e)
	}
	return w
}
