package gauss

import (
	"strings"

	"tracery/api"
	"tracery/frac"
)

// Text answers the number's text.
func Text(z api.Gauss) (string, api.Errno) {
	re, e := frac.Text(z.Re)
	im, f := frac.Text(z.Im)
	zero := frac.Int(0)
	switch {
	case e != api.OK, f != api.OK:
		return "", api.ErrArg
	case z.Im == zero:
		return re, api.OK
	case z.Re == zero:
		return im + "i", api.OK
	case frac.Sign(z.Im) > 0:
		return re + "+" + im + "i", api.OK
	}
	return re + im + "i", api.OK
}

// Read answers the number whose text s is.
func Read(s string) (api.Gauss, api.Errno) {
	if len(s) > api.MaxGaussText {
		return api.Gauss{}, api.ErrLong
	}
	re, im := parted(s)
	z, e := byParts(func(keep keeper) api.Gauss {
		return api.Gauss{Re: keep(frac.Read(re)), Im: keep(frac.Read(im))}
	})
	// A number has one text: a part that is 0 beside another one, and a sign
	// too many, are in none.
	if text, _ := Text(z); e != api.OK || text != s {
		return api.Gauss{}, api.ErrGauss
	}
	return z, api.OK
}

// parted answers the texts of both parts, 0 for one that is not there. Behind
// the first byte a sign stands just where a second part begins.
func parted(s string) (re, im string) {
	body, turned := strings.CutSuffix(s, "i")
	if !turned {
		return s, "0"
	}
	re, im = "0", body
signs:
	for at := 1; at < len(body); at++ {
		switch body[at] {
		case '+':
			re, im = body[:at], body[at+1:]
			break signs
		case '-':
			re, im = body[:at], body[at:]
			break signs
		}
	}
	return re, im
}
