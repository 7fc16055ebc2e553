package descartes

import (
	"math/big"

	"tracery/api"
	"tracery/frac"
)

// The places of a disk's four numbers.
const (
	bend = iota
	re
	im
	co
)

// form is four fractions on their way: whole numbers of any length, all over
// one that is not 0. They are a disk's four numbers, or one number of each of
// four disks. What the pointers lead to is shared, and so is never changed.
type form struct {
	parts [4]*big.Int
	under *big.Int
}

// fractions answers the form of fractions that may be, over what is above 0.
func fractions(a, b, c, d api.Frac) form {
	l := wholes(a, b, c, d, frac.Int(1))
	return form{parts: [4]*big.Int{l[0], l[1], l[2], l[3]}, under: l[4]}
}

// formOf is for disks whose numbers may be.
func formOf(d api.Disk) form { return fractions(d.Bend, d.Mid.Re, d.Mid.Im, d.Co) }

// circleForm answers the numbers that a disk has inside of a circle, but for a
// factor above 0. It is for circles whose numbers may be.
func circleForm(c api.Circle) form { return fractions(c.A, c.B.Re, c.B.Im, c.C).crossed() }

// crossed leads from Mid to B, its conjugate's opposite, and back.
func (f form) crossed() form {
	f.parts[re] = opposite(f.parts[re])
	return f
}

// conj is what turning over the real line makes of a disk.
func (f form) conj() form {
	f.parts[im] = opposite(f.parts[im])
	return f
}

// spot answers the form of the point z over w, w being real: a disk without a
// radius, whose products tell on which side it is.
func spot(z long, w *big.Int) form {
	across := z.scaled(w)
	return form{parts: [4]*big.Int{bend: square(w), re: across.re, im: across.im, co: z.norm()}, under: big.NewInt(1)}
}

func (f form) mid() long { return long{re: f.parts[re], im: f.parts[im]} }

// over answers the same numbers over another one.
func (f form) over(under *big.Int) form {
	f.under = under
	return f
}

func (f form) scaled(by *big.Int) form {
	for k, n := range f.parts {
		f.parts[k] = times(n, by)
	}
	return f.over(times(f.under, by))
}

func (f form) plus(g form) form {
	if f.under.Cmp(g.under) != 0 {
		f, g = f.scaled(g.under), g.scaled(f.under)
	}
	for k, n := range g.parts {
		f.parts[k] = plus(f.parts[k], n)
	}
	return f
}

func (f form) neg() form {
	for k, n := range f.parts {
		f.parts[k] = opposite(n)
	}
	return f
}

// sum is what it was handed, all together.
type sum struct {
	total *big.Int
}

func newSum() *sum { return &sum{total: new(big.Int)} }

// add takes the product of two numbers, so many times.
func (s *sum) add(count int64, a, b *big.Int) {
	s.total = plus(s.total, times(times(a, b), big.NewInt(count)))
}

// with hands on the products that make the product of two disks, twice.
func (f form) with(g form, add func(count int64, a, b *big.Int)) {
	add(1, f.parts[bend], g.parts[co])
	add(1, f.parts[co], g.parts[bend])
	add(-2, f.parts[re], g.parts[re])
	add(-2, f.parts[im], g.parts[im])
}

// twice answers the product of both as it is without what stands under them,
// twice: so it is whole.
func (f form) twice(g form) *big.Int {
	s := newSum()
	f.with(g, s.add)
	return s.total
}

// power answers |Mid|^2 - Bend Co, without what stands under it.
func (f form) power() *big.Int { return minus(f.mid().norm(), times(f.parts[bend], f.parts[co])) }

// toOne tells whether the product of two, over what is above 0, is below 1, 1,
// or above.
func (f form) toOne(g form) int { return f.twice(g).Cmp(double(times(f.under, g.under))) }

// told answers the fractions in lowest terms.
func (f form) told() (l [4]api.Frac, e api.Errno) {
	for k, n := range f.parts {
		if l[k], e = lowest(n, f.under); e != api.OK {
			return [4]api.Frac{}, e
		}
	}
	return l, api.OK
}

func (f form) disk() (api.Disk, api.Errno) {
	l, e := f.told()
	return diskOf(l), e
}

func diskOf(l [4]api.Frac) api.Disk {
	return api.Disk{Bend: l[bend], Mid: api.Gauss{Re: l[re], Im: l[im]}, Co: l[co]}
}

// circle answers the edge of a disk, by the number that a circle's one form has
// as 1: of a half plane that is one of Mid's, since these are not both 0.
func (f form) circle() (api.Circle, api.Errno) {
	f = f.crossed()
	for _, n := range f.parts[:co] {
		if n.Sign() != 0 {
			f = f.over(n)
			break
		}
	}
	l, e := f.told()
	return api.Circle{A: l[bend], B: api.Gauss{Re: l[re], Im: l[im]}, C: l[co]}, e
}
