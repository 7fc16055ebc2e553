package circ

import (
	"strings"

	"tracery/api"
	"tracery/frac"
	"tracery/gauss"
)

const blank = " "

// Text answers the circle's text.
func Text(c api.Circle) (string, api.Errno) {
	if e := Check(c); e != api.OK {
		return "", e
	}
	// A circle that may be has no number that is refused.
	a, _ := frac.Text(c.A)
	b, _ := gauss.Text(c.B)
	last, _ := frac.Text(c.C)
	return strings.Join([]string{a, b, last}, blank), api.OK
}

// Read answers the circle whose text s is.
func Read(s string) (api.Circle, api.Errno) {
	if len(s) > api.MaxList {
		return api.Circle{}, api.ErrLong
	}
	parts := strings.Split(s, blank)
	if len(parts) != 3 {
		return api.Circle{}, api.ErrCircle
	}
	// A part that is no number's text is read as what may not be.
	a, _ := frac.Read(parts[0])
	b, _ := gauss.Read(parts[1])
	last, _ := frac.Read(parts[2])
	c := api.Circle{A: a, B: b, C: last}
	if Check(c) != api.OK {
		return api.Circle{}, api.ErrCircle
	}
	return c, api.OK
}
