package words

import (
	"slices"

	"tracery/api"
)

// short answers what is left of w, as a list of its own.
func short(w []int) []int {
	left := make([]int, 0, len(w))
	for _, k := range w {
		if n := len(left); n > 0 && cancel(left[n-1], k) {
			left = left[:n-1]
		} else {
			left = append(left, k)
		}
	}
	return left[:len(left):len(left)]
}

// pieces are short words one behind the other, none of them empty, that make a
// short word together. They stay apart, since a product may on its way be far
// longer than what may be told: no letter is copied till it is known to stay.
type pieces [][]int

// product answers the product of words, of any length.
func product(l ...[]int) pieces {
	var p pieces
	for _, w := range l {
		p = p.times(short(w))
	}
	return p
}

// put answers the product of the images that stand for w's letters.
func put(w []int, images [][]int) pieces {
	images = images[:min(len(images), api.MaxMaps)] // no letter asks for more
	there, back := make([][]int, len(images)), make([][]int, len(images))
	for i, image := range images {
		there[i] = short(image)
		back[i] = inverse(there[i])
	}
	var p pieces
	for _, k := range w {
		if k > 0 {
			p = p.times(there[k-1])
		} else {
			p = p.times(back[-k-1])
		}
	}
	return p
}

// times puts one more short word behind the pieces, less what cancels. The
// words themselves stay as they are, as the same one may stand there often.
func (p pieces) times(w []int) pieces {
	for len(p) > 0 && len(w) > 0 {
		last := p[len(p)-1]
		n := cancelling(last, w)
		last, w = last[:len(last)-n:len(last)-n], w[n:]
		if len(last) > 0 {
			p[len(p)-1] = last
			break
		}
		p = p[:len(p)-1]
	}
	if len(w) > 0 {
		p = append(p, w[:len(w):len(w)])
	}
	return p
}

// cancelling tells how many letters at v's end cancel as many at w's beginning.
func cancelling(v, w []int) int {
	n := 0
	for n < len(v) && n < len(w) && cancel(v[len(v)-1-n], w[n]) {
		n++
	}
	return n
}

func (p pieces) letters() []int { return slices.Concat(p...) }

// told answers the letters as a list of their own, if they may be a word.
func (p pieces) told() ([]int, api.Errno) {
	n := 0
	for _, w := range p {
		n += len(w)
	}
	if n > api.MaxList {
		return nil, api.ErrLong
	}
	return p.letters(), api.OK
}
