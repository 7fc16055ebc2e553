package console

import "tracery/api"

// refusal is why an order is given up. It has a type of its own, so that no other
// panic is taken for one.
type refusal api.Errno

// faced is what an order answers, or, if it is given up, however deep inside, why.
func faced(does func() string) (text string) {
	defer func() {
		switch why := recover().(type) {
		case nil:
		case refusal:
			text = lines(api.Errno(why).Error())
		default:
			panic(why) // nothing that was given up: it would hide a fault of ours
		}
	}()
	return does()
}

// must gives up unless something holds.
func must(holds bool, e api.Errno) {
	if !holds {
		panic(refusal(e))
	}
}

// check gives up by what a layer below refuses.
func check(e api.Errno) { must(e == api.OK, e) }

// got is what a layer below answers, unless it refuses.
func got[T any](x T, e api.Errno) T {
	check(e)
	return x
}
