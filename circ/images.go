package circ

import (
	"tracery/api"
	"tracery/mob"
)

// Image answers the circle to which the map sends a circle.
func Image(m api.Mob, c api.Circle) (api.Circle, api.Errno) {
	f, e := taken(c)
	if e != api.OK || mob.Check(m) != api.OK {
		return api.Circle{}, api.ErrArg
	}
	return f.image(matrixOf(m)).told()
}

// Images answers the circles to which the map sends each one.
func Images(m api.Mob, l ...api.Circle) ([]api.Circle, api.Errno) {
	if len(l) > api.MaxList {
		return nil, api.ErrLong
	}
	if e := mob.Check(m); e != api.OK {
		return nil, e
	}
	forms := make([]form, 0, len(l))
	for _, c := range l {
		// A circle that may not be is told ahead of an image that is too big.
		f, e := taken(c)
		if e != api.OK {
			return nil, e
		}
		forms = append(forms, f)
	}
	images, by := make([]api.Circle, 0, len(l)), matrixOf(m)
	for _, f := range forms {
		image, e := f.image(by).told()
		if e != api.OK {
			return nil, e
		}
		images = append(images, image)
	}
	return images, api.OK
}
