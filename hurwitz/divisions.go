package hurwitz

import (
	"iter"
	"math/big"

	"tracery/api"
)

// divisions goes over the quotients of a by b, of b by the rest, of that by the
// next rest .., until nothing is left.
//
// The numbers themselves are not needed for that: what is kept is the norms of
// the two that are next, and the first one times the second one's conjugate. So
// no two long numbers are multiplied behind the beginning.
func divisions(a, b integer) iter.Seq[integer] {
	return func(yield func(integer) bool) {
		norm, next, cross := a.norm(), b.norm(), a.times(b.conj())
		for next.Sign() > 0 {
			quotient := cross.nearest(next)
			if !yield(quotient) {
				return
			}
			// What is left is the rest, times the conjugate of what it is the rest by.
			left := cross.plus(quotient.neg().scaled(next))
			norm, next = next, minus(norm, quotient.dot(cross.plus(left)))
			cross = left.conj()
		}
	}
}

// row is the last two of numbers each of which is made of the two ahead.
type row struct {
	last, now integer
}

// after answers the row one further: by a quotient it is that of a convergent's
// numbers, by its opposite that of rests.
func (r row) after(by integer) row {
	return row{last: r.now, now: r.last.plus(by.times(r.now))}
}

// converging answers what makes, quotient by quotient, the two numbers of the
// convergent.
func converging() func(quotient integer) (over, under integer) {
	overs, unders := row{last: zero(), now: one()}, row{last: one(), now: zero()}
	return func(quotient integer) (integer, integer) {
		overs, unders = overs.after(quotient), unders.after(quotient)
		return overs.now, unders.now
	}
}

// ratio is one whole complex number over another one, of any length.
type ratio struct {
	over, under integer
}

// ratioOf is for numbers that may be.
func ratioOf(z api.Gauss) ratio {
	re, im := bigOf(z.Re.Den), bigOf(z.Im.Den)
	common := new(big.Int).GCD(nil, nil, re, im)
	byRe, byIm := quo(im, common), quo(re, common)
	return ratio{
		over:  integer{re: times(bigOf(z.Re.Num), byRe), im: times(bigOf(z.Im.Num), byIm)},
		under: integer{re: times(re, byRe), im: new(big.Int)},
	}
}

func (x ratio) quotients() iter.Seq[integer] { return divisions(x.over, x.under) }

func (x ratio) inverse() ratio { return ratio{over: x.under, under: x.over} }

func (x ratio) plus(z integer) ratio {
	return ratio{over: x.over.plus(z.times(x.under)), under: x.under}
}

// told is for what is not divided by 0.
func (x ratio) told() (api.Gauss, api.Errno) {
	product, norm := x.over.times(x.under.conj()), x.under.norm()
	re, wrong := lowest(product.re, norm)
	im, e := lowest(product.im, norm)
	if wrong != api.OK || e != api.OK {
		return api.Gauss{}, api.ErrBig
	}
	return api.Gauss{Re: re, Im: im}, api.OK
}

// check answers whether told refuses it. Where that is short enough before it is
// brought to lowest terms, these need no asking.
func (x ratio) check() api.Errno {
	under := x.under.bits()
	if max(x.over.bits(), under)+under+1 <= 8*api.MaxWhole {
		return api.OK
	}
	_, e := x.told()
	return e
}

// lowest answers num over den, which is above 0, in lowest terms. It is the one
// place that refuses a fraction for its length.
func lowest(num, den *big.Int) (api.Frac, api.Errno) {
	r := new(big.Rat).SetFrac(num, den)
	x := api.Frac{Num: wholeOf(r.Num()), Den: wholeOf(r.Denom())}
	if len(x.Num.Mag) > api.MaxWhole || len(x.Den.Mag) > api.MaxWhole {
		return api.Frac{}, api.ErrBig
	}
	return x, api.OK
}

func quo(a, b *big.Int) *big.Int { return new(big.Int).Quo(a, b) }
