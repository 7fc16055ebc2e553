package sphere

import (
	"math/big"

	"tracery/api"
	"tracery/frac"
)

// Lift answers the three coordinates on the ball.
func Lift(p api.Point) ([3]api.Frac, api.Errno) {
	if !May(p) {
		return [3]api.Frac{}, api.ErrArg
	}
	z := wideOf(p)
	weight := z.weight()
	at := [3]api.Frac{}
	for k, part := range [3]func(z wide) *big.Int{wide.east, wide.north, wide.up} {
		x, e := ratio{num: part(z), den: weight}.told()
		if e != api.OK {
			return [3]api.Frac{}, e
		}
		at[k] = x
	}
	return at, api.OK
}

// Drop answers the point that stands for three coordinates.
func Drop(at [3]api.Frac) (api.Point, api.Errno) {
	switch {
	case at == top():
		return Infinity(), api.OK
	case !allMay(at):
		return api.Point{}, api.ErrArg
	}
	nums, den := together(at)
	if !onBall(nums, den) {
		return api.Point{}, api.ErrArg
	}
	// The straight line from the top through the ball's point goes on to the
	// plane, and meets it at the point that is looked for.
	return wide{re: nums[0], im: nums[1], den: minus(den, nums[2])}.told()
}

// top is where infinity is on the ball.
func top() [3]api.Frac { return [3]api.Frac{frac.Int(0), frac.Int(0), frac.Int(1)} }

func allMay(at [3]api.Frac) bool {
	for _, x := range at {
		if !frac.May(x) {
			return false
		}
	}
	return true
}

// together answers three fractions that may be as numbers over one den.
func together(at [3]api.Frac) (nums [3]*big.Int, den *big.Int) {
	den = big.NewInt(1)
	for _, x := range at {
		den = times(den, bigOf(x.Den))
	}
	for k, x := range at {
		nums[k] = times(bigOf(x.Num), over(den, bigOf(x.Den)))
	}
	return nums, den
}

func onBall(nums [3]*big.Int, den *big.Int) bool {
	sum := big.NewInt(0)
	for _, n := range nums {
		sum = plus(sum, square(n))
	}
	return sum.Cmp(square(den)) == 0
}
