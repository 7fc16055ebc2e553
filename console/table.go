package console

import (
	"tracery/api"
	"tracery/frac"
	"tracery/script"
	"tracery/shop"
)

// What stands at a place behind an order's first word.
const (
	wantsFrac   = 'x'
	wantsNumber = '#'
	wantsAny    = 'X' // the name of any thing; the others are names of things of a kind
	wantsPoint  = 'P'
	wantsMap    = 'M'
	wantsCircle = 'C'
	wantsDisk   = 'D'
)

// order is what an order wants, a letter for each word, and what it does.
type order struct {
	wants string
	does  func(d *desk, l []given) string
}

// given is what a word says: what its letter does not ask for is zero.
type given struct {
	name   string
	thing  api.Thing // that stands under the name
	x      api.Frac
	number int
}

func orders() map[string]order {
	return map[string]order{
		"things":  {"", (*desk).things},
		"show":    {"X", (*desk).show},
		"near":    {"P", (*desk).near},
		"kind":    {"M", (*desk).kind},
		"stay":    {"M", (*desk).stay},
		"centre":  {"C", (*desk).centre},
		"chord":   {"PP", (*desk).chord},
		"touch":   {"DD", (*desk).touch},
		"ford":    {"x", (*desk).ford},
		"best":    {"x#", (*desk).best},
		"row":     {"#", (*desk).row},
		"way":     {"x", (*desk).way},
		"count":   {"##", (*desk).count},
		"picture": {"", (*desk).picture},
		"box":     {"", (*desk).box},
		"keep":    {"", (*desk).keep},
		"restore": {"", (*desk).restore},
		"new":     {"", (*desk).renew},
		"scene":   {"#", (*desk).scene},
	}
}

// verb is what the desk has to know of a verb of the shop's.
type verb struct{ makes bool }

func verbs() map[string]verb {
	table := map[string]verb{}
	for word, makes := range shop.Verbs() {
		table[word] = verb{makes}
	}
	return table
}

// order does an order of the table, in the order in which it may be refused.
func (d *desk) order(words []string) string {
	o, is := d.orders[words[0]]
	must(is, api.ErrArg)
	l := read(o.wants, words[1:])
	d.find(o.wants, l)
	return o.does(d, l)
}

func read(wants string, words []string) []given {
	must(len(words) == len(wants), api.ErrArg)
	l := make([]given, len(words))
	for k, word := range words {
		l[k] = readOne(wants[k], word)
	}
	return l
}

func readOne(letter byte, word string) given {
	switch letter {
	case wantsFrac:
		x, e := frac.Read(word)
		must(e == api.OK, api.ErrArg)
		return given{x: x}
	case wantsNumber:
		return given{number: number(word)}
	}
	// A word is never empty, so this asks whether it is a name.
	must(script.Check(api.Stmt{Verb: "show", Name: word}) == api.OK, api.ErrArg)
	return given{name: word}
}

// number reads digits up to 999999999.
func number(word string) int {
	const most = 9
	must(len(word) <= most && (word[0] != '0' || word == "0"), api.ErrArg)
	n := 0
	for _, c := range []byte(word) {
		must('0' <= c && c <= '9', api.ErrArg)
		n = 10*n + int(c-'0')
	}
	return n
}

// find wants all names to stand, and then all things to be of their kinds.
func (d *desk) find(wants string, l []given) {
	for k, x := range l {
		if x.name != "" {
			l[k].thing = got(d.shop.Thing(x.name))
		}
	}
	for k, x := range l {
		must(x.name == "" || wants[k] == wantsAny || wants[k] == letterOf(x.thing), api.ErrKind)
	}
}

// letterOf is the letter of things of a kind, if there is one.
func letterOf(x api.Thing) byte {
	switch x.Kind {
	case api.ThingPoint:
		return wantsPoint
	case api.ThingMap:
		return wantsMap
	case api.ThingCircle:
		return wantsCircle
	case api.ThingDisk:
		return wantsDisk
	}
	return wantsAny
}
