package fmob

import (
	"tracery/api"
	"tracery/cplx"
)

// numbers are a map's A, B, C, D, for what is done to one as to the other.
type numbers [4]complex128

func numbersOf(f api.FMob) numbers { return numbers{f.A, f.B, f.C, f.D} }

func (l numbers) told(turns bool) api.FMob {
	return api.FMob{A: l[0], B: l[1], C: l[2], D: l[3], Turns: turns}
}

func (l numbers) each(do func(z complex128) complex128) numbers {
	for k, z := range l {
		l[k] = do(z)
	}
	return l
}

func (l numbers) turned(turns bool) numbers {
	return l.each(func(z complex128) complex128 { return turned(z, turns) })
}

func (l numbers) parts() [8]float64 {
	var out [8]float64
	for k, z := range l {
		out[2*k], out[2*k+1] = real(z), imag(z)
	}
	return out
}

func turned(z complex128, turns bool) complex128 {
	if turns {
		return cplx.Conj(z)
	}
	return z
}
