package shop

import "tracery/api"

// refusal is why a statement is given up. It has a type of its own, so that no
// other panic is taken for one.
type refusal api.Errno

// faced does what may be given up, however deep inside, and answers why it was.
func faced[T any](do func() T) (x T, e api.Errno) {
	defer func() {
		switch why := recover().(type) {
		case nil:
		case refusal:
			e = api.Errno(why)
		default:
			panic(why) // nothing that was given up: it would hide a fault of ours
		}
	}()
	return do(), api.OK
}

// must gives up unless something holds.
func must(holds bool, e api.Errno) {
	if !holds {
		panic(refusal(e))
	}
}

// check gives up by what a layer below refuses.
func check(e api.Errno) { must(e == api.OK, e) }

// got is what a layer below answers, unless it refuses.
func got[T any](x T, e api.Errno) T {
	check(e)
	return x
}
