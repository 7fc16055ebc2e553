package near

import (
	"iter"
	"math"
)

// Between goes over floats.
func Between(a, b float64) iter.Seq[float64] {
	return func(yield func(float64) bool) {
		if !finite(a) || !finite(b) {
			return
		}
		for at := range upward(place(a), place(b)) {
			if !yield(floatAt(at)) {
				return
			}
		}
	}
}

// place numbers the finite floats in their order, both noughts as 0.
func place(f float64) int64 {
	at := int64(math.Float64bits(f) &^ signBit)
	if f < 0 {
		return -at
	}
	return at
}

// floatAt is the way back.
func floatAt(place int64) float64 {
	if place < 0 {
		return math.Float64frombits(uint64(-place) | signBit)
	}
	return math.Float64frombits(uint64(place))
}

func upward(first, last int64) iter.Seq[int64] {
	return func(yield func(int64) bool) {
		for at := first; at <= last; at++ {
			if !yield(at) {
				return
			}
		}
	}
}
