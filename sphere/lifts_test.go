package sphere_test

import (
	"math/big"
	"math/rand"
	"testing"

	"tracery/api"
	"tracery/sphere"
)

func wantLift(t *testing.T, z spot) {
	t.Helper()
	got, e := sphere.Lift(z.point())
	wanted := z.lift()
	if !fits(wanted[:]...) {
		if got != ([3]api.Frac{}) || e != api.ErrBig {
			t.Fatalf("%s lifted, too long: %v", brief(z.point()), e)
		}
		return
	}
	if got != coordinates(wanted) || e != api.OK {
		t.Fatalf("%s lifted is %s, %s, %s, %v", brief(z.point()), briefFrac(got[0]), briefFrac(got[1]), briefFrac(got[2]), e)
	}
}

func TestLift(t *testing.T) { // P7.5
	ones(func(z spot) { wantLift(t, z) })
	one, none := over(1, 1), over(0, 1)
	for _, x := range []struct {
		z    spot
		want [3]api.Frac
	}{
		{short(1, 0), [3]api.Frac{one, none, none}}, {short(0, 0), [3]api.Frac{none, none, over(-1, 1)}}, {far(), [3]api.Frac{none, none, one}},
		{short(2, 0), [3]api.Frac{over(4, 5), none, over(3, 5)}}, {short(0, -2), [3]api.Frac{none, over(-4, 5), over(3, 5)}},
	} {
		if got, e := sphere.Lift(x.z.point()); got != x.want || e != api.OK {
			t.Errorf("%s lifted is %v, %v", brief(x.z.point()), got, e)
		}
	}
}

func TestLiftAtTheBound(t *testing.T) { // P7.5
	r := rand.New(rand.NewSource(77))
	for _, x := range []struct {
		z    spot
		want api.Errno
	}{
		{at(ofInt(twos(4095)), new(big.Rat)), api.OK}, {at(ofInt(twos(4096)), new(big.Rat)), api.ErrBig},
		{at(new(big.Rat), quo(big.NewRat(1, 1), ofInt(twos(4095)))), api.OK}, {at(new(big.Rat), quo(big.NewRat(1, 1), ofInt(twos(4096)))), api.ErrBig},
		{at(ofInt(new(big.Int).Sub(twos(4096), big.NewInt(1))), new(big.Rat)), api.OK},
		{at(ofInt(bigOf(top())), new(big.Rat)), api.ErrBig}, {at(ofInt(bytes(r, 510)), ofInt(bytes(r, 511))), api.OK},
	} {
		wantLift(t, x.z)
		if _, e := sphere.Lift(x.z.point()); e != x.want {
			t.Errorf("%s lifted: %v, want %v", brief(x.z.point()), e, x.want)
		}
	}
	for _, p := range wrong() {
		if got, e := sphere.Lift(p); got != ([3]api.Frac{}) || e != api.ErrArg {
			t.Fatalf("a wrong one lifted: %v", e)
		}
	}
}

func wantDrop(t *testing.T, l [3]*big.Rat, z spot) {
	t.Helper()
	got, e := sphere.Drop(coordinates(l))
	wantSpot(t, brief(z.point())+" dropped again", got, e, z)
}

func TestDrop(t *testing.T) { // P7.5
	ones(func(z spot) {
		if l := z.lift(); fits(l[:]...) {
			wantDrop(t, l, z)
		}
	})
	got, e := sphere.Drop([3]api.Frac{over(3, 5), over(4, 5), over(0, 1)})
	want(t, "3/5, 4/5, 0 dropped", got, e, at(big.NewRat(3, 5), big.NewRat(4, 5)).point())
	got, e = sphere.Drop([3]api.Frac{over(0, 1), over(0, 1), over(1, 1)})
	want(t, "the top dropped", got, e, far().point())
	got, e = sphere.Drop([3]api.Frac{over(0, 1), over(0, 1), over(-1, 1)})
	want(t, "the bottom dropped", got, e, short(0, 0).point())
	got, e = sphere.Drop([3]api.Frac{over(1, 3), over(-2, 3), over(2, 3)})
	want(t, "1/3, -2/3, 2/3 dropped", got, e, short(1, -2).point())
}

// slanted are the coordinates of u over v: twice u conj v, and |u|^2 - |v|^2,
// over |u|^2 + |v|^2.
func slanted(u, v [2]*big.Int) (l [3]*big.Rat, quotient spot) {
	square := func(z [2]*big.Int) *big.Int {
		re, im := new(big.Int).Mul(z[0], z[0]), new(big.Int).Mul(z[1], z[1])
		return re.Add(re, im)
	}
	re := new(big.Int).Add(new(big.Int).Mul(u[0], v[0]), new(big.Int).Mul(u[1], v[1]))
	im := new(big.Int).Sub(new(big.Int).Mul(u[1], v[0]), new(big.Int).Mul(u[0], v[1]))
	sum, less := new(big.Int).Add(square(u), square(v)), new(big.Int).Sub(square(u), square(v))
	twice := new(big.Int).Lsh(re, 1)
	return [3]*big.Rat{new(big.Rat).SetFrac(twice, sum), new(big.Rat).SetFrac(new(big.Int).Lsh(im, 1), sum), new(big.Rat).SetFrac(less, sum)},
		at(new(big.Rat).SetFrac(re, square(v)), new(big.Rat).SetFrac(im, square(v)))
}

func TestDropTooLong(t *testing.T) { // P7.5
	// A point whose coordinates may be, while its own parts may not: |v|^2, below
	// the line, has a byte more than half of |u|^2 + |v|^2, both being odd.
	u, v := [2]*big.Int{twos(4095), big.NewInt(12345)}, [2]*big.Int{twos(4096), big.NewInt(77)}
	l, z := slanted(u, v)
	if !fits(l[:]...) || z.fits() {
		t.Fatal("the case is none")
	}
	got, e := sphere.Drop(coordinates(l))
	wantRefused(t, "a point too long, dropped", got, e, api.ErrBig)
	// Behind what may not be its length is not told.
	wrongUp := coordinates(l)
	wrongUp[2] = over(-3, 5)
	got, e = sphere.Drop(wrongUp)
	wantRefused(t, "what is too long and not on the ball, dropped", got, e, api.ErrArg)
	// Upside down it is short enough.
	l, z = slanted(v, u)
	wantDrop(t, l, z)
}

func TestDropRefusesWrongOnes(t *testing.T) { // P7.5
	for _, x := range wrongFracs() {
		for _, l := range [][3]api.Frac{
			{x, over(0, 1), over(1, 1)}, {over(0, 1), x, over(1, 1)}, {over(0, 1), over(1, 1), x}, {x, x, x}, {over(1, 1), over(1, 1), x},
		} {
			got, e := sphere.Drop(l)
			wantRefused(t, "a wrong coordinate, dropped", got, e, api.ErrArg)
		}
	}
	long := api.Frac{Num: more(top(), -1), Den: top()}
	for _, l := range [][3]api.Frac{
		{over(1, 1), over(1, 1), over(0, 1)}, {over(0, 1), over(0, 1), over(0, 1)}, {over(0, 1), over(0, 1), over(2, 1)},
		{over(1, 1), over(0, 1), over(1, 1)}, {over(0, 1), over(-1, 1), over(1, 1)}, {over(3, 5), over(4, 5), over(1, 1000)},
		{over(1, 3), over(2, 3), over(1, 3)}, {over(1, 2), over(1, 2), over(1, 2)}, {long, over(0, 1), over(0, 1)}, {long, long, long},
		{over(0, 1), over(0, 1), long}, {over(0, 1), over(0, 1), {Num: small(1), Den: top()}}, {{Num: top(), Den: small(1)}, over(0, 1), over(1, 1)},
	} {
		got, e := sphere.Drop(l)
		wantRefused(t, "no point of the surface, dropped", got, e, api.ErrArg)
	}
	// A last digit more in one coordinate, and it is off the ball.
	r := rand.New(rand.NewSource(78))
	for range 100 {
		l := odd(r, 8).lift()
		k := r.Intn(3)
		l[k] = plus(l[k], quo(big.NewRat(1, 1), ofInt(twos(3000))))
		if sum := plus(plus(times(l[0], l[0]), times(l[1], l[1])), times(l[2], l[2])); sum.Cmp(big.NewRat(1, 1)) == 0 {
			continue
		}
		got, e := sphere.Drop(coordinates(l))
		wantRefused(t, "a point next to the surface, dropped", got, e, api.ErrArg)
	}
}
