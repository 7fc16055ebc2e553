package tiles

import (
	"math/big"

	"tracery/api"
)

// Many long maps make numbers far longer than can be reckoned with, and all for
// a circle that is refused. That is found by remainders, which stay short.

// prime answers the prime by which remainders are taken, 2^19937 - 1. It is
// greater than twice the square of all that a fraction's numbers come to.
func prime() *big.Int {
	return minus(new(big.Int).Lsh(big.NewInt(1), 19937), big.NewInt(1))
}

// mayFit answers false only if the maps make a circle of f that is too big. The
// numbers of a circle that is not are fractions with no factor of the prime
// below the line: so by remainders, too, the form's numbers over its unit are
// these.
func (f form) mayFit(maps []*pull) bool {
	by := prime()
	for _, m := range maps {
		m = m.remainder(by)
		if m.most.Sign() == 0 { // all may come to 0, which tells nothing
			return true
		}
		f = m.of(f).remainder(by)
	}
	back := new(big.Int).ModInverse(f.unit(), by)
	if back == nil {
		return false
	}
	for _, n := range f {
		if !remainsOfShort(mod(times(n, back), by), by) {
			return false
		}
	}
	return true
}

func (f form) remainder(by *big.Int) form {
	for k, n := range f {
		f[k] = mod(n, by)
	}
	return f
}

// remainder is asked for often, of few maps, and so is kept.
func (m *pull) remainder(by *big.Int) *pull {
	if m.rest == nil {
		m.rest = &pull{most: mod(m.most, by)}
		for k, row := range m.rows {
			m.rest.rows[k] = form(row).remainder(by)
		}
	}
	return m.rest
}

// remainsOfShort tells whether n is what remains of a fraction that is not too
// long. In Euclid's division of by and n each rest is n times a number, but for
// a multiple of by. Of the first rest that is short enough that number is what
// the fraction has below the line, if there is such a fraction.
func remainsOfShort(n, by *big.Int) bool {
	last, rest := by, n
	ahead, below := new(big.Int), big.NewInt(1)
	for !isShort(rest) {
		q, r := new(big.Int).QuoRem(last, rest, new(big.Int))
		last, rest = rest, r
		ahead, below = below, minus(ahead, times(q, below))
	}
	return isShort(below)
}

func isShort(n *big.Int) bool { return n.BitLen() <= 8*api.MaxWhole }

func mod(a, by *big.Int) *big.Int { return new(big.Int).Mod(a, by) }
