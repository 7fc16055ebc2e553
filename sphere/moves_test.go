package sphere_test

import (
	"math/big"
	"math/rand"
	"testing"

	"tracery/api"
	"tracery/sphere"
)

type move struct {
	does  ofOne
	wants func(z spot) spot
}

func moves() map[string]move {
	return map[string]move{
		"Neg":     {sphere.Neg, spot.neg},
		"Conj":    {sphere.Conj, spot.conj},
		"Inverse": {sphere.Inverse, spot.inverse},
		"Across":  {sphere.Across, spot.across},
	}
}

func TestMoves(t *testing.T) { // P7.3
	for name, m := range moves() {
		ones(func(z spot) {
			got, e := m.does(z.point())
			wantSpot(t, name+" of "+brief(z.point()), got, e, m.wants(z))
		})
	}
}

func TestMovesExamples(t *testing.T) { // P7.3
	inf, zero := far(), short(0, 0)
	half := at(new(big.Rat), big.NewRat(-1, 2))
	for _, x := range []struct {
		name        string
		does        ofOne
		given, want spot
	}{
		{"Inverse", sphere.Inverse, zero, inf}, {"Inverse", sphere.Inverse, inf, zero}, {"Inverse", sphere.Inverse, short(0, 2), half},
		{"Inverse", sphere.Inverse, short(1, 1), at(big.NewRat(1, 2), big.NewRat(-1, 2))},
		{"Across", sphere.Across, short(0, 2), half}, {"Across", sphere.Across, short(1, 0), short(-1, 0)},
		{"Across", sphere.Across, inf, zero}, {"Across", sphere.Across, zero, inf},
		{"Across", sphere.Across, short(1, 1), at(big.NewRat(-1, 2), big.NewRat(-1, 2))},
		{"Neg", sphere.Neg, inf, inf}, {"Neg", sphere.Neg, zero, zero}, {"Neg", sphere.Neg, short(1, -2), short(-1, 2)},
		{"Conj", sphere.Conj, inf, inf}, {"Conj", sphere.Conj, zero, zero}, {"Conj", sphere.Conj, short(1, -2), short(1, 2)},
	} {
		got, e := x.does(x.given.point())
		want(t, x.name+" of "+brief(x.given.point()), got, e, x.want.point())
	}
}

func TestMovesRefuseWrongOnes(t *testing.T) { // P7.3
	for name, m := range moves() {
		for _, p := range wrong() {
			got, e := m.does(p)
			wantRefused(t, name+" of a wrong one", got, e, api.ErrArg)
		}
	}
}

func TestMovesTooLong(t *testing.T) { // P7.3
	r := rand.New(rand.NewSource(73))
	none, one := new(big.Rat), big.NewRat(1, 1)
	most, least := ofInt(bigOf(top())), quo(one, ofInt(twos(8*api.MaxWhole-1)))
	for _, x := range []struct {
		what string
		z    spot
		big  bool
	}{
		{"a number whose norm is long", at(ofInt(bytes(r, 513)), ofInt(bytes(r, 512))), true},
		{"a norm that is just not too long", at(ofInt(twos(4095)), one), false},
		{"a norm that is just too long", at(ofInt(twos(4096)), one), true},
		{"the longest number", at(most, none), false},
		{"the longest number times -i", at(none, opposite(most)), false},
		{"two of the longest numbers", at(most, most), true},
		{"two of the longest numbers that are powers of 2", at(quo(one, least), quo(one, least)), true},
		{"two of the least numbers", at(least, opposite(least)), false},
	} {
		for _, name := range []string{"Inverse", "Across"} {
			got, e := moves()[name].does(x.z.point())
			if x.big != (e == api.ErrBig) {
				t.Errorf("%s of %s: %v", name, x.what, e)
			}
			wantSpot(t, name+" of "+x.what, got, e, moves()[name].wants(x.z))
		}
		for _, name := range []string{"Neg", "Conj"} {
			got, e := moves()[name].does(x.z.point())
			want(t, name+" of "+x.what, got, e, moves()[name].wants(x.z).point())
		}
	}
}
