package nets

import (
	"tracery/api"
	"tracery/cross"
	"tracery/gauss"
	"tracery/sphere"
)

// Corner tells the last corner of a square.
func Corner(p, q, s api.Point, ratio api.Gauss) (api.Point, api.Errno) {
	if gauss.Zero(ratio) || ratio == gauss.Int(1, 0) {
		return api.Point{}, api.ErrArg
	}
	// Two exchanges of neighbours keep the ratio, and bring the corner that is
	// looked for to the last place.
	r, e := cross.Fourth(q, p, s, api.Point{Z: ratio})
	if e == api.ErrSame {
		e = api.ErrNet
	}
	return r, e
}

// fill tells all corners but those of the first row and the first column. By
// its own numbers, since a ratio of two labels may be longer than may be told.
func (n *Net) fill() api.Errno {
	e := api.OK
	low := pairsOf(n.rows[0])
squares:
	for j, b := range n.b {
		high := append(make([]pair, 0, len(low)), pairOf(n.rows[j+1][0]))
		for i, a := range n.a {
			l, _ := n.Square(i+1, j+1)
			if twins(l[0], l[1], l[3]) {
				e = api.ErrNet
				break squares
			}
			var r api.Point
			if r, e = corner(low[i], low[i+1], high[i], ratioOf(a, b)).told(); e != api.OK {
				break squares
			}
			n.rows[j+1][i+1], high = r, append(high, pairOf(r))
		}
		low = high
	}
	return e
}

func twins(p, q, r api.Point) bool { return p == q || q == r || r == p }

// areSides tells whether a net may be looked for from these, however many there
// are.
func areSides(s api.NetSides) bool {
	switch {
	case len(s.A) < 1, len(s.B) < 1, len(s.Row) != len(s.A)+1, len(s.Column) != len(s.B)+1, s.Row[0] != s.Column[0]:
		return false
	}
	return every(sphere.May, s.Row, s.Column) && every(isLabel, s.A, s.B) && apart(s.A, s.B)
}

func every[T any](is func(T) bool, lists ...[]T) bool {
	for _, l := range lists {
		for _, x := range l {
			if !is(x) {
				return false
			}
		}
	}
	return true
}

func isLabel(z api.Gauss) bool { return gauss.May(z) && !gauss.Zero(z) }

// apart tells whether no a is a b. The lists may be far longer than a side: so
// not each is held against each.
func apart(a, b []api.Gauss) bool {
	places := make(map[api.Gauss]int, len(a))
	for k, z := range a {
		places[z] = k
	}
	for _, z := range b {
		if _, is := places[z]; is {
			return false
		}
	}
	return true
}
