package mirrors

import "tracery/api"

// Orbit answers to where the elements send p.
func (m *Mirrors) Orbit(p api.Point, most int) ([]api.Point, api.Errno) {
	if e := m.checkWay(p, most); e != api.OK {
		return nil, e
	}
	l, e := m.elements(most)
	if e != api.OK {
		return nil, e
	}
	turns := make([]func(api.Point) (api.Point, api.Errno), 0, len(m.list))
	for _, x := range m.list {
		turns = append(turns, x.point)
	}
	return images(l, turns, p)
}

// Walls answers to where the elements send the mirrors' circles.
func (m *Mirrors) Walls(most int) ([]api.Circle, api.Errno) {
	l, e := m.elements(most)
	if e != api.OK {
		return nil, e
	}
	turns := make([]func(api.Circle) (api.Circle, api.Errno), 0, len(m.list))
	circles := make([]api.Circle, 0, len(m.list))
	for _, x := range m.list {
		turns, circles = append(turns, x.wall), append(circles, x.circle)
	}
	return images(l, turns, circles...)
}

// images answers to where the elements send the things, each image once, element
// by element. What an element makes of a thing is what its last letter makes of
// what the element ahead of that letter makes of it.
func images[T comparable](l elements, turns []func(T) (T, api.Errno), things ...T) ([]T, api.Errno) {
	told := album[T]{turns: turns, numbers: map[T]int{}, turned: map[step]int{}}
	rows := make([][]int, len(l)) // of each element the numbers of its images
	for i, x := range l {
		rows[i] = make([]int, len(things))
		for j, thing := range things {
			e := api.OK
			if i == 0 {
				rows[i][j], e = told.number(thing)
			} else {
				rows[i][j], e = told.turn(rows[x.from][j], x.letter)
			}
			if e != api.OK {
				return nil, e
			}
		}
	}
	return told.list, api.OK
}

// album keeps each thing once, by the order in which they came, and what the
// turnings make of them: many elements lead to the same, and this is done once.
type album[T comparable] struct {
	turns   []func(T) (T, api.Errno)
	list    []T
	numbers map[T]int
	turned  map[step]int
}

// turn answers the number of what a letter makes of the thing from.
func (a *album[T]) turn(from, letter int) (int, api.Errno) {
	s := step{from, letter}
	if n, ok := a.turned[s]; ok {
		return n, api.OK
	}
	x, e := a.turns[letter-1](a.list[from])
	if e != api.OK {
		return 0, e
	}
	n, e := a.number(x)
	if e == api.OK {
		a.turned[s] = n
	}
	return n, e
}

// number answers the number of a thing, which it may be the first to have.
func (a *album[T]) number(x T) (int, api.Errno) {
	n, ok := a.numbers[x]
	switch {
	case ok:
		return n, api.OK
	case len(a.list) == api.MaxElems:
		return 0, api.ErrMany
	}
	n = len(a.list)
	a.numbers[x] = n
	a.list = append(a.list, x)
	return n, api.OK
}
