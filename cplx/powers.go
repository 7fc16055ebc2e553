package cplx

import (
	"iter"

	"tracery/api"
)

// Power: P5.5.
func Power(z complex128, n int) complex128 {
	if n < 0 {
		// Without a sign there is room for what the least int is turned to.
		return Div(complex(1, 0), power(z, -uint64(n)))
	}
	return power(z, uint64(n))
}

func power(z complex128, n uint64) complex128 {
	p, s := complex(1, 0), z
	for n > 0 {
		if n&1 == 1 {
			p = Mul(p, s)
		}
		n >>= 1
		if n > 0 {
			s = Mul(s, s)
		}
	}
	return p
}

// Poly: P5.5.
func Poly(z complex128, l ...complex128) complex128 {
	if len(l) == 0 {
		return 0
	}
	x := l[len(l)-1]
	for k := len(l) - 2; k >= 0; k-- {
		x = Add(Mul(x, z), l[k])
	}
	return x
}

// Sum: P5.5.
func Sum(l ...complex128) complex128 {
	var x complex128
	for _, z := range l {
		x = Add(x, z)
	}
	return x
}

// Powers: P5.5.
func Powers(z complex128, n int) (iter.Seq2[int, complex128], api.Errno) {
	if n > api.MaxList {
		return nil, api.ErrLong
	}
	return func(yield func(int, complex128) bool) {
		// Where it stands is kept in here, so that each range begins anew.
		x := complex(1, 0)
		for k := range n {
			if !yield(k, x) {
				return
			}
			x = Mul(x, z)
		}
	}, api.OK
}
