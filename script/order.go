package script

import "tracery/api"

// Order tells whether a scene is in order.
func Order(scene ...api.Stmt) (int, api.Errno) {
	_, n, e := standing(scene)
	return n, e
}

// Names tells the names that stand in a scene.
func Names(scene ...api.Stmt) []string {
	var l []string
	for _, s := range scene {
		if s.Name != "" {
			l = append(l, s.Name)
		}
	}
	return l
}

// Needs tells what a name needs.
func Needs(scene []api.Stmt, name string) ([]int, api.Errno) {
	places, _, e := standing(scene)
	if e != api.OK {
		return nil, e
	}
	last, ok := places[name]
	if !ok {
		return nil, api.ErrName
	}
	needed := make([]bool, last+1)
	needed[last] = true
	// What a statement names stands ahead of it: so one walk back meets all.
	for i := last; i >= 0; i-- {
		if !needed[i] {
			continue
		}
		for _, a := range scene[i].Args {
			if a.Kind == api.ArgName {
				needed[places[a.Name]] = true
			}
		}
	}
	var l []int
	for i, is := range needed {
		if is {
			l = append(l, i)
		}
	}
	return l, api.OK
}

// standing tells at which place each name of a scene in order stands, and how many
// statements there are, or beside an error its place.
func standing(scene []api.Stmt) (map[string]int, int, api.Errno) {
	n, e := checked(scene)
	if e != api.OK {
		return nil, n, e
	}
	places := map[string]int{}
	for i, s := range scene {
		for _, a := range s.Args {
			if _, stands := places[a.Name]; a.Kind == api.ArgName && !stands {
				return nil, i, api.ErrName
			}
		}
		if s.Name == "" {
			continue
		}
		if _, stands := places[s.Name]; stands {
			return nil, i, api.ErrName
		}
		places[s.Name] = i
	}
	return places, n, api.OK
}
