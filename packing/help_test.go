package packing_test

import (
	"fmt"
	"math/big"
	"slices"
	"testing"

	"tracery/api"
)

// What follows goes by the document's words and math/big, not by the packages
// that are tested.

func whole(n *big.Int) api.Whole { return api.Whole{Neg: n.Sign() < 0, Mag: string(n.Bytes())} }

func small(n int64) api.Whole { return whole(big.NewInt(n)) }

func fraction(r *big.Rat) api.Frac { return api.Frac{Num: whole(r.Num()), Den: whole(r.Denom())} }

func over(num, den int64) api.Frac { return fraction(big.NewRat(num, den)) }

func rat(num, den int64) *big.Rat { return big.NewRat(num, den) }

func none() *big.Rat { return new(big.Rat) }

func ofInt(n *big.Int) *big.Rat { return new(big.Rat).SetInt(n) }

func under(n *big.Int) *big.Rat { return new(big.Rat).SetFrac(big.NewInt(1), n) }

func plus(x, y *big.Rat) *big.Rat { return new(big.Rat).Add(x, y) }

func minus(x, y *big.Rat) *big.Rat { return new(big.Rat).Sub(x, y) }

func times(x, y *big.Rat) *big.Rat { return new(big.Rat).Mul(x, y) }

func quo(x, y *big.Rat) *big.Rat { return new(big.Rat).Quo(x, y) }

func inverse(x *big.Rat) *big.Rat { return new(big.Rat).Inv(x) }

func opposite(x *big.Rat) *big.Rat { return new(big.Rat).Neg(x) }

func square(x *big.Rat) *big.Rat { return times(x, x) }

func double(x *big.Rat) *big.Rat { return plus(x, x) }

func upTo(x *big.Rat) bool {
	return len(x.Num().Bytes()) <= api.MaxWhole && len(x.Denom().Bytes()) <= api.MaxWhole
}

// rootOf answers the fraction above 0 or 0 whose square x is.
func rootOf(x *big.Rat) *big.Rat {
	return new(big.Rat).SetFrac(new(big.Int).Sqrt(x.Num()), new(big.Int).Sqrt(x.Denom()))
}

// twos is 2 to the power n.
func twos(n uint) *big.Int { return new(big.Int).Lsh(big.NewInt(1), n) }

func more(n *big.Int, by int64) *big.Int { return new(big.Int).Add(n, big.NewInt(by)) }

func shared(n *big.Int, by int64) *big.Int { return new(big.Int).Quo(n, big.NewInt(by)) }

// top is the greatest number of a fraction, 256 to the power 1024 less 1; past
// is the next one, root its square root.
func top() *big.Int { return more(past(), -1) }

func past() *big.Int { return twos(8 * api.MaxWhole) }

func root() *big.Int { return twos(4 * api.MaxWhole) }

// num is an exact complex number by math/big.
type num struct{ re, im *big.Rat }

func in(re, im int64) num { return num{rat(re, 1), rat(im, 1)} }

func parts(a, b, c, d int64) num { return num{rat(a, b), rat(c, d)} }

func flat(x *big.Rat) num { return num{x, none()} }

func (z num) gauss() api.Gauss { return api.Gauss{Re: fraction(z.re), Im: fraction(z.im)} }

func (z num) fits() bool { return upTo(z.re) && upTo(z.im) }

func (z num) zero() bool { return z.re.Sign() == 0 && z.im.Sign() == 0 }

func (z num) same(w num) bool { return z.minus(w).zero() }

func (z num) plus(w num) num { return num{plus(z.re, w.re), plus(z.im, w.im)} }

func (z num) minus(w num) num { return z.plus(w.neg()) }

func (z num) neg() num { return num{opposite(z.re), opposite(z.im)} }

func (z num) conj() num { return num{z.re, opposite(z.im)} }

func (z num) scaled(by *big.Rat) num { return num{times(z.re, by), times(z.im, by)} }

func (z num) dot(w num) *big.Rat { return plus(times(z.re, w.re), times(z.im, w.im)) }

func (z num) norm() *big.Rat { return z.dot(z) }

func (z num) times(w num) num {
	return num{minus(times(z.re, w.re), times(z.im, w.im)), plus(times(z.re, w.im), times(z.im, w.re))}
}

// pointing answers z squared over its norm: a number of the magnitude 1.
func (z num) pointing() num { return z.times(z).scaled(inverse(z.norm())) }

// ball is a disk by math/big, or four numbers that stand for none.
type ball struct {
	bend *big.Rat
	mid  num
	co   *big.Rat
}

func balled(bend, re, im, co int64) ball { return ball{rat(bend, 1), in(re, im), rat(co, 1)} }

// about is the disk about a centre with a radius, of one below 0 what lies
// outside: Co is what makes |Mid|^2 - Bend Co 1.
func about(centre num, radius *big.Rat) ball {
	mid := centre.scaled(inverse(radius))
	return ball{inverse(radius), mid, times(minus(mid.norm(), rat(1, 1)), radius)}
}

// beyond is the half plane that begins at a point and goes on along a number of
// the magnitude 1.
func beyond(p, along num) ball { return ball{none(), along, double(along.dot(p))} }

// The four of the examples.
func o() ball { return about(in(0, 0), rat(-1, 1)) }

func a() ball { return about(parts(1, 2, 0, 1), rat(1, 2)) }

func b() ball { return about(parts(-1, 2, 0, 1), rat(1, 2)) }

func c() ball { return about(parts(0, 1, 2, 3), rat(1, 3)) }

func knot() quad { return quad{o(), a(), b(), c()} }

// strip is two half planes, and two disks between them.
func strip() quad {
	return quad{balled(0, 0, -1, 0), balled(0, 0, 1, 4), balled(1, 0, 1, 0), balled(1, 2, 1, 4)}
}

func (x ball) disk() api.Disk {
	return api.Disk{Bend: fraction(x.bend), Mid: x.mid.gauss(), Co: fraction(x.co)}
}

func (x ball) fits() bool { return upTo(x.bend) && x.mid.fits() && upTo(x.co) }

func (x ball) straight() bool { return x.bend.Sign() == 0 }

func (x ball) same(y ball) bool {
	return x.bend.Cmp(y.bend) == 0 && x.mid.same(y.mid) && x.co.Cmp(y.co) == 0
}

func (x ball) times(by *big.Rat) ball {
	return ball{times(x.bend, by), x.mid.scaled(by), times(x.co, by)}
}

func (x ball) plus(y ball) ball {
	return ball{plus(x.bend, y.bend), x.mid.plus(y.mid), plus(x.co, y.co)}
}

func (x ball) out() ball { return x.times(rat(-1, 1)) }

// centre and radius are for what is no half plane; the radius has Bend's sign.
func (x ball) centre() num { return x.mid.scaled(inverse(x.bend)) }

func (x ball) radius() *big.Rat { return inverse(x.bend) }

// distance is how far a half plane is from a point outside of it, below 0 inside.
func (x ball) distance(z num) *big.Rat { return minus(times(rat(1, 2), x.co), x.mid.dot(z)) }

// lying is the product by centres, radii and distances.
func (x ball) lying(y ball) *big.Rat {
	if x.straight() {
		x, y = y, x
	}
	switch {
	case x.straight():
		return opposite(x.mid.dot(y.mid))
	case y.straight():
		return quo(y.distance(x.centre()), x.radius())
	}
	r, s, d := x.radius(), y.radius(), x.centre().minus(y.centre()).norm()
	return quo(minus(d, plus(square(r), square(s))), double(times(r, s)))
}

func (x ball) touches(y ball) bool {
	return x.lying(y).Cmp(rat(1, 1)) == 0 && !x.same(y.out())
}

func (x ball) overlaps(y ball) bool { return x.lying(y).Cmp(rat(1, 1)) < 0 && !x.same(y) }

func (x ball) slid(by num) ball {
	return ball{x.bend, x.mid.plus(by.scaled(x.bend)), plus(plus(x.co, double(x.mid.dot(by))), times(x.bend, by.norm()))}
}

// stretched is for numbers whose magnitude is a fraction.
func (x ball) stretched(by num) ball {
	size := rootOf(by.norm())
	return ball{quo(x.bend, size), x.mid.times(by).scaled(inverse(size)), times(x.co, size)}
}

// flipped is what z to 1 / z makes of a disk.
func (x ball) flipped() ball { return ball{x.co, x.mid.conj(), x.bend} }

// quad is four disks by math/big.
type quad [4]ball

func (f quad) disks() [4]api.Disk {
	return [4]api.Disk{f[0].disk(), f[1].disk(), f[2].disk(), f[3].disk()}
}

func (f quad) each(do func(x ball) ball) quad { return quad{do(f[0]), do(f[1]), do(f[2]), do(f[3])} }

func (f quad) fits() bool { return f[0].fits() && f[1].fits() && f[2].fits() && f[3].fits() }

func (f quad) with(i int, x ball) quad {
	f[i] = x
	return f
}

func (f quad) out() quad { return f.each(ball.out) }

func (f quad) slid(by num) quad { return f.each(func(x ball) ball { return x.slid(by) }) }

func (f quad) stretched(by num) quad { return f.each(func(x ball) ball { return x.stretched(by) }) }

// touch tells whether each two of the four touch.
func (f quad) touch() bool {
	for i := range f {
		for j := range i {
			if !f[i].touches(f[j]) {
				return false
			}
		}
	}
	return true
}

// changed is chapter 20's.
func (f quad) changed(l ...int) quad {
	for _, i := range l {
		others := f[(i+1)%4].plus(f[(i+2)%4]).plus(f[(i+3)%4])
		f[i] = others.times(rat(2, 1)).plus(f[i].out())
	}
	return f
}

func (f quad) bends() *big.Rat {
	return plus(plus(f[0].bend, f[1].bend), plus(f[2].bend, f[3].bend))
}

// at is P21.4's, of four that touch: what swaps come to, or ErrBig, if it comes
// up on the way.
func (f quad) at(l ...int) (quad, api.Errno) {
	for _, i := range l {
		if f = f.changed(i); !f[i].fits() {
			return quad{}, api.ErrBig
		}
	}
	return f, api.OK
}

// root is P21.4's, of four that touch.
func (f quad) root() (quad, []int, api.Errno) {
	var way []int
	for {
		first := -1
		for i := 3; i >= 0; i-- {
			if f.changed(i)[i].bend.Cmp(f[i].bend) < 0 {
				first = i
			}
		}
		if first < 0 {
			return f, way, api.OK
		}
		if len(way) == api.MaxList {
			return quad{}, nil, api.ErrPacked
		}
		if f = f.changed(first); !f[first].fits() {
			return quad{}, nil, api.ErrBig
		}
		way = append(way, first)
	}
}

// row answers the rails of four that touch, and the disks n and n + 1 of the
// row that the other two begin: that many swaps of 2 and 3 in turn lead to it.
func (f quad) row(n int64) quad {
	disk := func(n int64) ball {
		way := f[3].plus(f[2].out()).times(rat(n, 1))
		return f[2].plus(way).plus(f[0].plus(f[1]).times(rat(n*(n-1), 1)))
	}
	return quad{f[0], f[1], disk(n), disk(n + 1)}
}

// brought is a disk of a packing by math/big.
type brought struct {
	ball
	swaps []int
}

// rows answers all swaps in a row of just n, in their order: all numbers of n
// digits to the base 4, of which no two neighbours are the same.
func rows(n int) [][]int {
	var l [][]int
	for k := range 1 << (2 * n) {
		row := make([]int, n)
		for i := range row {
			row[i] = k >> (2 * (n - 1 - i)) & 3
		}
		if mixed(row) {
			l = append(l, row)
		}
	}
	return l
}

func mixed(row []int) bool {
	for i := range row {
		if i > 0 && row[i] == row[i-1] {
			return false
		}
	}
	return true
}

// all answers the disks of at most n swaps, in their order, of any length.
func (f quad) all(n int) []brought {
	var l []brought
	for _, x := range f {
		l = append(l, brought{ball: x})
	}
	behind := map[string]quad{fmt.Sprint([]int{}): f}
	for k := 1; k <= n; k++ {
		for _, row := range rows(k) {
			last := row[k-1]
			g := behind[fmt.Sprint(row[:k-1])].changed(last)
			behind[fmt.Sprint(row)] = g
			l = append(l, brought{g[last], row})
		}
	}
	return l
}

// fitting answers those ahead of the first one that is too big.
func fitting(l []brought) []brought {
	for k, x := range l {
		if !x.fits() {
			return l[:k]
		}
	}
	return l
}

// brief tells an answer so that it can be read.
func brief(x any) string {
	switch v := x.(type) {
	case api.Frac:
		s := new(big.Int).SetBytes([]byte(v.Num.Mag)).String() + "/" + new(big.Int).SetBytes([]byte(v.Den.Mag)).String()
		if v.Num.Neg {
			s = "-" + s
		}
		return s[:min(len(s), 30)]
	case api.Disk:
		return fmt.Sprint("disk ", brief(v.Bend), " ", brief(v.Mid.Re), " ", brief(v.Mid.Im), " ", brief(v.Co))
	case [4]api.Disk:
		return fmt.Sprint(brief(v[0]), ", ", brief(v[1]), ", ", brief(v[2]), ", ", brief(v[3]))
	}
	return fmt.Sprint(x)
}

// want wants an answer that can be held against another one by ==.
func want[T comparable](t *testing.T, what string, got T, e api.Errno, wanted T) {
	t.Helper()
	if got != wanted || e != api.OK {
		t.Fatalf("%s is %s, %v, want %s", what, brief(got), e, brief(wanted))
	}
}

// wantNone wants an error, and what is zero beside it.
func wantNone[T comparable](t *testing.T, what string, got T, e, wanted api.Errno) {
	t.Helper()
	var zero T
	if got != zero || e != wanted {
		t.Fatalf("%s is %s, %v, want nothing, %v", what, brief(got), e, wanted)
	}
}

// wantList wants the disks and their swaps.
func wantList(t *testing.T, what string, got []api.Packed, e api.Errno, wanted []brought) {
	t.Helper()
	if e != api.OK || len(got) != len(wanted) {
		t.Fatalf("%s has %d disks, %v, want %d", what, len(got), e, len(wanted))
	}
	for k, p := range got {
		if p.Disk != wanted[k].disk() || !slices.Equal(p.Swaps, wanted[k].swaps) {
			t.Fatalf("%s has at %d %s by %v, want %s by %v", what, k, brief(p.Disk), p.Swaps, brief(wanted[k].disk()), wanted[k].swaps)
		}
	}
}

// wantNoList wants an error, and no list.
func wantNoList(t *testing.T, what string, got []api.Packed, e, wanted api.Errno) {
	t.Helper()
	if len(got) != 0 || e != wanted {
		t.Fatalf("%s has %d disks, %v, want none, %v", what, len(got), e, wanted)
	}
}

// wantFour wants the four, or the error.
func wantFour(t *testing.T, what string, got [4]api.Disk, e api.Errno, wanted quad, wrong api.Errno) {
	t.Helper()
	if wrong != api.OK {
		wantNone(t, what, got, e, wrong)
		return
	}
	want(t, what, got, e, wanted.disks())
}

// wantRoot wants the four and the swaps, or the error.
func wantRoot(t *testing.T, what string, got [4]api.Disk, swaps []int, e api.Errno, wanted quad, way []int, wrong api.Errno) {
	t.Helper()
	wantFour(t, what, got, e, wanted, wrong)
	if !slices.Equal(swaps, way) {
		t.Fatalf("%s goes by %d swaps, want %d", what, len(swaps), len(way))
	}
}

// tally counts what was seen, so that a test can tell what it did not see.
type tally map[string]int

func (s tally) least(t *testing.T, count int, names ...string) {
	t.Helper()
	for _, name := range names {
		if s[name] < count {
			t.Errorf("%s: seen just %d times", name, s[name])
		}
	}
}

func (s tally) when(name string, ok bool) {
	if ok {
		s[name]++
	}
}
