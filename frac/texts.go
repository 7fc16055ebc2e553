package frac

import (
	"tracery/api"
	"tracery/whole"
)

// Text answers the fraction's text.
func Text(x api.Frac) (string, api.Errno) {
	if !May(x) {
		return "", api.ErrArg
	}
	num, _ := whole.Text(x.Num)
	if x.Den == one() {
		return num, api.OK
	}
	den, _ := whole.Text(x.Den)
	return num + "/" + den, api.OK
}

// Read answers the fraction whose text s is.
func Read(s string) (api.Frac, api.Errno) {
	parts := cut(s)
	numbers := [2]api.Whole{1: one()}
	for i, part := range parts {
		n, e := whole.Read(part)
		// A fraction over 1 is told without the 1.
		if e != api.OK || i == 1 && n == one() {
			return api.Frac{}, api.ErrFrac
		}
		numbers[i] = n
	}
	x := api.Frac{Num: numbers[0], Den: numbers[1]}
	if len(parts) == 0 || !May(x) {
		return api.Frac{}, api.ErrFrac
	}
	return x, api.OK
}

// cut parts a text at the byte '/'. It answers no part where that stands
// twice, or where a byte stands that no fraction's text has.
func cut(s string) []string {
	var parts []string
	from := 0
cutting:
	for range 2 {
		for at := from; at < len(s); at++ {
			switch c := s[at]; {
			case c == '/':
				parts, from = append(parts, s[from:at]), at+1
				continue cutting
			case c != '-' && (c < '0' || c > '9'):
				break cutting
			}
		}
		return append(parts, s[from:])
	}
	return nil
}
