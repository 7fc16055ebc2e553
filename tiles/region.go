package tiles

import "tracery/api"

// side is one as it is reckoned with.
type side struct {
	form form
	sign int
	edge bool
}

type region []side

// none is the number of a side where there is no such side.
const none = -1

// regionOf is for sides that may be.
func regionOf(sides []api.Side) region {
	r := make(region, 0, len(sides))
	for _, s := range sides {
		r = append(r, side{form: formOf(s.Circle), sign: s.Sign, edge: s.Edge})
	}
	return r
}

func (s side) holds(at light) bool {
	value := s.form.sign(at)
	return value == s.sign || value == 0 && s.edge
}

func (r region) where(at light) api.Place {
	place := api.PlaceIn
sides:
	for _, s := range r {
		switch s.form.sign(at) {
		case 0:
			place = api.PlaceRim
		case -s.sign:
			place = api.PlaceOut
			break sides
		}
	}
	return place
}

func (r region) beyond(at light) int {
	for k, s := range r {
		if !s.holds(at) {
			return k
		}
	}
	return none
}

// pulled answers the sides of the region of those points that the maps, done
// one behind the other from the last one on, lead into r.
func (r region) pulled(maps ...*pull) ([]api.Side, api.Errno) {
	sides := make([]api.Side, 0, len(r))
	for _, s := range r {
		f, e := s.form.pulled(maps)
		if e != api.OK {
			return nil, e
		}
		told, e := side{form: f, sign: s.sign, edge: s.edge}.told()
		if e != api.OK {
			return nil, e
		}
		sides = append(sides, told)
	}
	return sides, api.OK
}

// told turns the sign with the form's numbers, where these are divided by a
// number below 0.
func (s side) told() (api.Side, api.Errno) {
	c, e := s.form.told()
	if e != api.OK {
		return api.Side{}, e
	}
	return api.Side{Circle: c, Sign: s.sign * s.form.unit().Sign(), Edge: s.edge}, api.OK
}
