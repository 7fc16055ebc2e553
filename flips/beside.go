package flips

import (
	"slices"

	"tracery/api"
	"tracery/gauss"
	"tracery/nets"
)

// Beside tells whether o lies beside n by this number.
func Beside(n, o *nets.Net, by api.Gauss) (bool, api.Errno) {
	s, e := n.Sides()
	t, f := o.Sides()
	switch {
	case e != api.OK, f != api.OK:
		return false, api.ErrNil
	case !gauss.May(by):
		return false, api.ErrArg
	case !slices.Equal(s.A, t.A), !slices.Equal(s.B, t.B), !goes(by, s.A, s.B):
		return false, api.OK
	}
	return beside(n, o, ratiosOf(s.A, by), ratiosOf(s.B, by)), api.OK
}

// beside goes by the ratios of the squares along rows, and along columns.
func beside(n, o *nets.Net, along, up []pair) bool {
	here, there := cornersOf(n), cornersOf(o)
	is := true
corners:
	for at := range n.All() {
		// Each square is looked at from the further end of its side in n.
		square := func(from [2]int, ratio pair) bool {
			return fits(here[from], here[at], there[at], there[from], ratio)
		}
		i, j := at[0], at[1]
		switch {
		case i > 0 && !square([2]int{i - 1, j}, along[i-1]), j > 0 && !square([2]int{i, j - 1}, up[j-1]):
			is = false
			break corners
		}
	}
	return is
}

func ratiosOf(labels []api.Gauss, by api.Gauss) []pair {
	ratios := make([]pair, 0, len(labels))
	for _, a := range labels {
		ratios = append(ratios, ratioOf(a, by))
	}
	return ratios
}

// cornersOf answers a net's corners by their places.
func cornersOf(n *nets.Net) map[[2]int]pair {
	corners := map[[2]int]pair{}
	for at, p := range n.All() {
		corners[at] = pairOf(p)
	}
	return corners
}
