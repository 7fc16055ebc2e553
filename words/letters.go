package words

import (
	"cmp"
	"slices"

	"tracery/api"
)

// checked tells what is wrong with some words: a letter of any one comes ahead
// of the length of any other one.
func checked(l ...[]int) api.Errno {
	e := api.OK
	for _, w := range l {
		if slices.ContainsFunc(w, noLetter) {
			return api.ErrArg
		}
		if len(w) > api.MaxList {
			e = api.ErrLong
		}
	}
	return e
}

func noLetter(k int) bool { return k == 0 || k < -api.MaxMaps || k > api.MaxMaps }

// size is the number of a letter or of its inverse.
func size(k int) int { return max(k, -k) }

func cancel(k, l int) bool { return k+l == 0 }

// inverse turns a word round, each letter its inverse.
func inverse(w []int) []int {
	back := make([]int, len(w))
	copy(back, w)
	slices.Reverse(back)
	for i := range back {
		back[i] *= -1
	}
	return back
}

// after is the letter that comes next in the order 1, -1, 2, -2, 3 ..
func after(k int) int {
	k *= -1
	if k > 0 {
		k++
	}
	return k
}

// byLetter is the order of letters.
func byLetter(k, l int) int {
	return cmp.Or(cmp.Compare(size(k), size(l)), cmp.Compare(l, k))
}

// shorterFirst makes an order of words out of one of letters.
func shorterFirst(order func(k, l int) int) func(v, w []int) int {
	return func(v, w []int) int {
		return cmp.Or(cmp.Compare(len(v), len(w)), slices.CompareFunc(v, w, order))
	}
}
