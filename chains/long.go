package chains

import (
	"math/big"

	"tracery/api"
)

// long is a whole complex number of any length.
type long struct {
	re, im *big.Int
}

func short(n int64) long { return long{re: big.NewInt(n), im: new(big.Int)} }

func (z long) zero() bool { return z.re.Sign() == 0 && z.im.Sign() == 0 }

func (z long) plus(w long) long { return long{re: plus(z.re, w.re), im: plus(z.im, w.im)} }

func (z long) minus(w long) long { return long{re: minus(z.re, w.re), im: minus(z.im, w.im)} }

func (z long) neg() long { return long{re: opposite(z.re), im: opposite(z.im)} }

func (z long) conj() long { return long{re: z.re, im: opposite(z.im)} }

func (z long) scaled(by *big.Int) long { return long{re: times(z.re, by), im: times(z.im, by)} }

func (z long) times(w long) long {
	return long{
		re: minus(times(z.re, w.re), times(z.im, w.im)),
		im: plus(times(z.re, w.im), times(z.im, w.re)),
	}
}

// divides answers w over z, which is not 0.
func (z long) divides(w long) (api.Gauss, api.Errno) {
	// What both parts of z share goes below the line as it is: in the norm it
	// would stand twice.
	shared := common(z.re, z.im)
	z = long{re: quotient(z.re, shared), im: quotient(z.im, shared)}
	num, den := w.times(z.conj()), times(shared, plus(square(z.re), square(z.im)))
	x, e := lowest(num.re, den)
	if e != api.OK {
		return api.Gauss{}, e
	}
	y, e := lowest(num.im, den)
	if e != api.OK {
		return api.Gauss{}, e
	}
	return api.Gauss{Re: x, Im: y}, api.OK
}
