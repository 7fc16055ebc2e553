package tiles

import (
	"cmp"
	"math/big"
	"slices"

	"tracery/api"
)

// form is a circle on its way: a, both parts of b, and c of the value
// a |z|^2 + 2 Re(b z) + c. All of it times a number above 0 says the same of
// each point: so whole numbers do, and nothing is divided till the circle is
// told. They share no factor, unless they are remainders.
type form [4]*big.Int

// maxBits is how many bits a number of a form has at most that can be told: it
// is one of a fraction's, times what three fractions have below the line.
const maxBits = 4 * 8 * api.MaxWhole

// formOf is for circles that may be.
func formOf(c api.Circle) form {
	l := wholes(c.A, c.B.Re, c.B.Im, c.C)
	return form{l[0], l[1], l[2], l[3]}
}

// sign is the value's.
func (f form) sign(at light) int { return dot(f, at).Sign() }

// unit is the number that a circle's one form has as 1: c is never it.
func (f form) unit() *big.Int {
	for _, n := range f[:2] {
		if n.Sign() != 0 {
			return n
		}
	}
	return f[2]
}

func (f form) tooLong() bool {
	return slices.ContainsFunc(f[:], func(n *big.Int) bool { return n.BitLen() > maxBits })
}

func (f form) told() (api.Circle, api.Errno) {
	if f.tooLong() {
		return api.Circle{}, api.ErrBig
	}
	l, e := told(f.unit(), f[:]...)
	if e != api.OK {
		return api.Circle{}, e
	}
	return api.Circle{A: l[0], B: api.Gauss{Re: l[1], Im: l[2]}, C: l[3]}, api.OK
}

// lowered divides by all that the numbers share, which is known to divide most.
// The shortest number comes first, as often nothing is shared with it already.
func (f form) lowered(most *big.Int) form {
	rising, shared := f, most
	slices.SortFunc(rising[:], func(a, b *big.Int) int { return cmp.Compare(a.BitLen(), b.BitLen()) })
	for _, n := range rising {
		if isOne(shared) {
			return f
		}
		shared = common(shared, n)
	}
	for k, n := range f {
		f[k] = over(n, shared)
	}
	return f
}

// pulled answers the form whose value at each point has the sign that f's value
// has where the maps, done one behind the other from the last one on, send that
// point.
func (f form) pulled(maps []*pull) (form, api.Errno) {
	was, asked := f, false
	for _, m := range maps {
		if f.tooLong() && !asked {
			if !was.mayFit(maps) {
				return form{}, api.ErrBig
			}
			asked = true
		}
		f = m.of(f).lowered(m.most)
	}
	return f, api.OK
}

// light is a point on its way, by what a form's numbers are taken times to make
// the value there.
type light [4]*big.Int

// lightOf is for points that may be.
func lightOf(p api.Point) light { return pairOf(p).light() }

func dot(l, r [4]*big.Int) *big.Int {
	sum := new(big.Int)
	for k, n := range l {
		sum.Add(sum, times(n, r[k]))
	}
	return sum
}
