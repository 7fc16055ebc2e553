package tiles

import (
	"math/big"
	"math/rand"
	"testing"

	"tracery/api"
)

// drawn is a number of just so many bits.
func drawn(r *rand.Rand, bits int) *big.Int {
	n := new(big.Int).Rand(r, new(big.Int).Lsh(big.NewInt(1), uint(bits-1)))
	return n.SetBit(n, bits-1, 1)
}

// The prime is one, and so great that no two short fractions leave the same.
func TestPrime(t *testing.T) {
	if prime().BitLen() <= 2*8*api.MaxWhole+1 {
		t.Error("the prime is too small")
	}
	// Fermat's word for it: 3 to the power of it, less 1, leaves 1.
	if by := prime(); !isOne(new(big.Int).Exp(big.NewInt(3), minus(by, big.NewInt(1)), by)) {
		t.Error("the prime is none")
	}
}

// What remains of a fraction tells whether it is short.
func TestRemainsOfShort(t *testing.T) {
	r, by, most := rand.New(rand.NewSource(187)), prime(), 8*api.MaxWhole
	look := func(num, den *big.Int, wanted bool) {
		t.Helper()
		if shared := common(num, den); !wanted && !isOne(shared) { // it may be short in lowest terms
			num = plus(times(num, den), big.NewInt(1))
		}
		n := mod(times(num, new(big.Int).ModInverse(den, by)), by)
		if got := remainsOfShort(n, by); got != wanted {
			t.Errorf("%d bits over %d are short: %v", num.BitLen(), den.BitLen(), got)
		}
	}
	top := minus(new(big.Int).Lsh(big.NewInt(1), uint(most)), big.NewInt(1))
	for _, n := range []*big.Int{new(big.Int), big.NewInt(1), big.NewInt(2), top, minus(top, big.NewInt(1))} {
		for _, d := range []*big.Int{big.NewInt(1), big.NewInt(2), top, minus(top, big.NewInt(1))} {
			look(n, d, true)
			look(opposite(n), d, true)
		}
	}
	for range 20 {
		n, d := drawn(r, 1+r.Intn(most)), drawn(r, 1+r.Intn(most))
		look(n, d, true)
		look(opposite(n), d, true)
		look(drawn(r, most+1), big.NewInt(1), false)
		look(opposite(drawn(r, most+1)), drawn(r, 5), false)
		look(big.NewInt(1), drawn(r, most+1), false)
		look(drawn(r, most+1+r.Intn(5*most)), drawn(r, 1+r.Intn(most)), false)
	}
}

// A map of which all numbers may leave nothing tells nothing; a form of which
// they do is that of no short circle.
func TestMayFitOfNothing(t *testing.T) {
	by, one, zero := prime(), big.NewInt(1), new(big.Int)
	double := pullOf(matrix{inf: pair{flat(2), flat(0)}, nought: pair{flat(0), flat(1)}})
	huge := pullOf(matrix{inf: pair{{re: by, im: zero}, flat(0)}, nought: pair{flat(0), flat(1)}})
	unit := form{one, zero, zero, opposite(one)}
	if !unit.mayFit(nil) || !unit.mayFit([]*pull{double}) || !unit.mayFit([]*pull{double, huge}) {
		t.Error("a circle that may fit is refused")
	}
	if (form{by, by, by, one}).remainder(by).mayFit([]*pull{double}) {
		t.Error("a form of which nothing is left but c fits")
	}
	long := form{one, zero, zero, opposite(new(big.Int).Lsh(one, 8*api.MaxWhole))}
	if long.mayFit([]*pull{double}) == false || long.mayFit(nil) {
		t.Error("a circle is told by its remainders to be another one")
	}
}
