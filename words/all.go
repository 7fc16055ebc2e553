package words

import (
	"iter"
	"math/bits"

	"tracery/api"
)

// Count answers how many short words of just n letters there are.
func Count(letters, n int) (uint64, api.Errno) {
	switch {
	case letters < 1 || letters > api.MaxMaps || n < 0:
		return 0, api.ErrArg
	case n == 0:
		return 1, api.OK
	case letters == 1: // by 1, however often: that would take as long as n is great
		return 2, api.OK
	}
	count, more := uint64(2*letters), uint64(2*letters-1)
	for range n - 1 {
		high, low := bits.Mul64(count, more)
		if high != 0 {
			return 0, api.ErrBig
		}
		count = low
	}
	return count, api.OK
}

// All goes over all short words of at most most letters, by the order.
func All(letters, most int) (iter.Seq[[]int], api.Errno) {
	if letters < 1 || letters > api.MaxMaps || most < 0 {
		return nil, api.ErrArg
	}
	if most > api.MaxList {
		return nil, api.ErrLong
	}
	return func(yield func([]int) bool) {
		first := ones()
		for n := range most + 1 {
			for w := range ofLength(letters, n, first) {
				if !yield(w) {
					return
				}
			}
		}
	}, api.OK
}

// ofLength goes over the short words of just n letters, from the first one on,
// with which the array begins. The pile is a copy of it: each going over begins
// there again, and none is in another one's way.
func ofLength(letters, n int, first [api.MaxList]int) iter.Seq[[]int] {
	return func(yield func([]int) bool) {
		pile := first
		for more := true; more; more = goOn(pile[:n], letters) {
			w := make([]int, n)
			copy(w, pile[:n]) // a caller may change what it is told
			if !yield(w) {
				return
			}
		}
	}
}

// ones begins with the first word of each length.
func ones() (first [api.MaxList]int) {
	for i := range first {
		first[i] = 1
	}
	return first
}

// goOn changes a short word to the next one of its length, if there is one.
func goOn(w []int, letters int) bool {
	for i := len(w) - 1; i >= 0; i-- {
		k := after(w[i])
		if i > 0 && cancel(w[i-1], k) {
			k = after(k)
		}
		if k <= letters {
			w[i] = k
			begin(w[i+1:], k)
			return true
		}
	}
	return false
}

// begin makes of w the first short word that may stand behind the letter k.
func begin(w []int, k int) {
	first := 1
	if cancel(k, first) {
		first = after(first)
	}
	for i := range w {
		w[i] = first
	}
}
