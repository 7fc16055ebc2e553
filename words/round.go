package words

import "slices"

// parted cuts a short word into its core and what that is brought by. Both are
// parts of w, so they may be read alone.
func parted(w []int) (core, by []int) {
	n := 0
	for 2*n+1 < len(w) && cancel(w[n], w[len(w)-1-n]) {
		n++
	}
	end := len(w) - n
	return w[n:end:end], w[end:]
}

// around puts by's inverse ahead of the core and by behind it.
func around(core, by []int) []int { return slices.Concat(inverse(by), core, by) }

// period answers the length of the least beginning of w that w is a row of.
func period(w []int) int {
	p := len(w) - borders(w)[len(w)-1]
	if len(w)%p != 0 {
		return len(w)
	}
	return p
}

// borders tells of each beginning of w how long the longest shorter one is that
// the beginning ends with.
func borders(w []int) []int {
	ends := make([]int, len(w))
	for i := 1; i < len(w); i++ {
		ends[i] = longer(w, ends, ends[i-1], w[i])
	}
	return ends
}

// longer answers how many of w's first letters end a text whose last letter is
// k, if n of them end what is ahead of k; n is below w's length.
func longer(w, ends []int, n, k int) int {
	for n > 0 && w[n] != k {
		n = ends[n-1]
	}
	if w[n] == k {
		n++
	}
	return n
}

// turned tells whether w is v, turned on by some letters: just then it stands
// in v and v behind it.
func turned(v, w []int) bool {
	if len(v) != len(w) {
		return false
	}
	n, ends := 0, borders(w)
	for _, k := range slices.Concat(v, v) {
		n = longer(w, ends, n, k)
		if n == len(w) {
			return true
		}
	}
	return len(w) == 0
}
