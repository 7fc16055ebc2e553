package near_test

import (
	"math"
	"math/big"
	"math/rand"
	"testing"

	"tracery/api"
	"tracery/cplx"
	"tracery/near"
)

// central goes by the exact number, not by comparing floats.
func central(f float64) bool {
	if !isFinite(f) {
		return false
	}
	x := exactly(f)
	x.Abs(x)
	return x.Sign() == 0 || x.Cmp(twos(-400)) >= 0 && x.Cmp(twos(400)) <= 0
}

func inMiddle(z complex128) bool { return central(real(z)) && central(imag(z)) }

func TestMiddle(t *testing.T) { // P6.4
	l := append(finites(), unfinites()...)
	for _, f := range l {
		for _, g := range l {
			if got := near.Middle(complex(f, g)); got != (central(f) && central(g)) {
				t.Errorf("%v and %v: %v", f, g, got)
			}
		}
	}
	for _, c := range []struct {
		z    complex128
		want bool
	}{
		{0, true}, {1e200, false}, {complex(math.NaN(), 0), false}, {complex(0, math.NaN()), false}, {complex(minusNought(), minusNought()), true},
		{0x1p400, true}, {-0x1p-400i, true}, {complex(0, math.Nextafter(0x1p400, math.Inf(1))), false}, {complex(1, math.Nextafter(0x1p-400, 0)), false}, {complex(math.Inf(-1), 1), false},
	} {
		if got := near.Middle(c.z); got != c.want {
			t.Errorf("%v: %v", c.z, got)
		}
	}
}

type operation struct {
	op      api.NearOp
	floats  func(z, w complex128) complex128
	exact   func(z, w pair) pair
	nearest int // the power of 2 that 'How near' names
}

func operations() []operation {
	return []operation{
		{api.NearAdd, cplx.Add, pair.plus, -53}, {api.NearSub, cplx.Sub, pair.minus, -53},
		{api.NearMul, cplx.Mul, pair.times, -51}, {api.NearDiv, cplx.Div, pair.over, -49},
	}
}

func isZero(z complex128) bool { return real(z) == 0 && imag(z) == 0 }

// room is the square of what 'How near' allows, in its own words.
func (o operation) room(z, w pair) *big.Rat {
	by := twos(2 * o.nearest)
	switch o.op {
	case api.NearMul:
		return times(by, times(z.norm(), w.norm()))
	case api.NearDiv:
		return times(by, times(z.norm(), new(big.Rat).Inv(w.norm())))
	}
	return times(by, o.exact(z, w).norm())
}

// wantHolds answers whether it was asked in the middle.
func (o operation) wantHolds(t *testing.T, z, w complex128) bool {
	t.Helper()
	got, e := near.Holds(o.op, z, w)
	answer := o.floats(z, w)
	if !inMiddle(z) || !inMiddle(w) || !inMiddle(answer) || o.op == api.NearDiv && isZero(w) {
		if got || e != api.ErrNone {
			t.Errorf("operation %d, %v, %v: %v, %v", o.op, z, w, got, e)
		}
		return false
	}
	off := pairOf(answer).minus(o.exact(pairOf(z), pairOf(w))).norm()
	if got != (off.Cmp(o.room(pairOf(z), pairOf(w))) <= 0) || e != api.OK {
		t.Errorf("operation %d, %v, %v: %v, %v", o.op, z, w, got, e)
	}
	if !got { // P6.6
		t.Errorf("operation %d, %v, %v is not near", o.op, z, w)
	}
	return true
}

func TestHolds(t *testing.T) { // P6.4, P6.6
	r := rand.New(rand.NewSource(65))
	for _, o := range operations() {
		asked := 0
		for range 1500 {
			for _, most := range []int{1, 3, 60, 199, 400} {
				z, w := complex(centred(r, most), centred(r, most)), complex(centred(r, most), centred(r, most))
				if o.wantHolds(t, z, w) {
					asked++
				}
			}
		}
		if asked < 4000 {
			t.Errorf("operation %d was in the middle %d times", o.op, asked)
		}
	}
}

// At the bounds of the middle, noughts of both signs among the parts.
func TestHoldsAtTheBounds(t *testing.T) { // P6.4
	l := []float64{
		0, minusNought(), 0x1p-400, -math.Nextafter(0x1p-400, 0), math.Nextafter(0x1p-400, 1), -1, 0x1.fffffffffffffp0, 0x1p-200, -0x1p200,
		0x1p400, -math.Nextafter(0x1p400, 0), math.Nextafter(0x1p400, math.Inf(1)), 0x1p399, 0x1p-1074, -math.MaxFloat64,
	}
	for _, o := range operations() {
		for _, a := range l {
			for _, b := range l {
				for _, c := range l {
					o.wantHolds(t, complex(a, b), complex(b, c))
					o.wantHolds(t, complex(a, b), complex(c, 0))
				}
			}
		}
	}
}

func TestHoldsExamples(t *testing.T) { // P6.4
	for i, c := range []struct {
		op   api.NearOp
		z, w complex128
		want bool
		e    api.Errno
	}{
		{api.NearDiv, 1, 3, true, api.OK}, {api.NearDiv, 1, 0, false, api.ErrNone}, {api.NearMul, 1e300, 1, false, api.ErrNone}, {0, 1, 1, false, api.ErrArg},
		{api.NearAdd, 0, complex(minusNought(), 0), true, api.OK}, {api.NearMul, 0, 0, true, api.OK}, {api.NearDiv, 0, 0, false, api.ErrNone}, {api.NearDiv, 1, complex(minusNought(), 0), false, api.ErrNone},
		{api.NearAdd, 0x1p400, 0x1p400, false, api.ErrNone}, {api.NearSub, 0x1p400, 0x1p400, true, api.OK}, {api.NearSub, 0x1.8p-400, 0x1p-400, false, api.ErrNone},
		{api.NearMul, 0x1p-200, 0x1p-200, true, api.OK}, {api.NearMul, 0x1p-200, 0x1p-201, false, api.ErrNone}, {api.NearDiv, 0x1p200, 0x1p-200, true, api.OK}, {api.NearDiv, 0x1p200, 0x1p-201, false, api.ErrNone},
	} {
		if got, e := near.Holds(c.op, c.z, c.w); got != c.want || e != c.e {
			t.Errorf("%d: %v, %v", i, got, e)
		}
	}
}

func TestHoldsRefuses(t *testing.T) { // P6.4
	refused := func(op api.NearOp, z, w complex128, want api.Errno) {
		t.Helper()
		if got, e := near.Holds(op, z, w); got || e != want {
			t.Errorf("operation %d, %v, %v: %v, %v; not %v", op, z, w, got, e, want)
		}
	}
	for _, op := range []api.NearOp{0, 5, -1, -4, 6, math.MaxInt, math.MinInt, math.MinInt + 1} {
		refused(op, 1, 1, api.ErrArg)
		refused(op, complex(math.NaN(), 0), 1e300, api.ErrArg)
		refused(op, 1e300, complex(0, math.Inf(1)), api.ErrArg)
	}
	for _, z := range unfiniteNumbers() {
		for op := api.NearAdd; op <= api.NearDiv; op++ {
			for _, w := range []complex128{1, 0, 1e300, z} { // a float ahead of what is not in the middle
				refused(op, z, w, api.ErrFloat)
				refused(op, w, z, api.ErrFloat)
			}
		}
	}
}
