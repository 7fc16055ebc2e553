package mob

import (
	"strings"

	"tracery/api"
	"tracery/gauss"
)

// What a map's text begins with.
const (
	plainWord  = "map"
	turnedWord = "turn"
)

const blank = " "

// Text answers the map's text.
func Text(m api.Mob) (string, api.Errno) {
	if e := Check(m); e != api.OK {
		return "", e
	}
	parts := []string{plainWord}
	if m.Turns {
		parts[0] = turnedWord
	}
	for _, z := range [4]api.Gauss{m.A, m.B, m.C, m.D} {
		text, _ := gauss.Text(z) // a map that may be has no number that is refused
		parts = append(parts, text)
	}
	return strings.Join(parts, blank), api.OK
}

// Read answers the map whose text s is.
func Read(s string) (api.Mob, api.Errno) {
	if len(s) > api.MaxList {
		return api.Mob{}, api.ErrLong
	}
	parts := strings.Split(s, blank)
	if len(parts) != 5 || parts[0] != plainWord && parts[0] != turnedWord {
		return api.Mob{}, api.ErrMob
	}
	numbers := [4]api.Gauss{}
	for k, part := range parts[1:] {
		z, e := gauss.Read(part)
		if e != api.OK {
			return api.Mob{}, api.ErrMob
		}
		numbers[k] = z
	}
	m := api.Mob{A: numbers[0], B: numbers[1], C: numbers[2], D: numbers[3], Turns: parts[0] == turnedWord}
	if Check(m) != api.OK {
		return api.Mob{}, api.ErrMob
	}
	return m, api.OK
}
