package sphere

import (
	"tracery/api"
	"tracery/gauss"
)

// far is infinity's text.
const far = "inf"

// Text answers the point's text.
func Text(p api.Point) (string, api.Errno) {
	switch {
	case !May(p):
		return "", api.ErrArg
	case p.Inf:
		return far, api.OK
	}
	return gauss.Text(p.Z)
}

// Read answers the point whose text s is.
func Read(s string) (api.Point, api.Errno) {
	if s == far {
		return Infinity(), api.OK
	}
	z, e := gauss.Read(s)
	if e != api.OK {
		// A text too long for a number's is no point's either.
		return api.Point{}, api.ErrPoint
	}
	return api.Point{Z: z}, api.OK
}
