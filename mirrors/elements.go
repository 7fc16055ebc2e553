package mirrors

import (
	"tracery/api"
	"tracery/mob"
	"tracery/words"
)

// Map answers what a word does.
func (m *Mirrors) Map(w ...int) (api.Mob, api.Errno) {
	if e := m.checkWord(w); e != api.OK {
		return api.Mob{}, e
	}
	out, e := mob.One(), api.OK
	for _, k := range w {
		// The first letters are told each time, since it is they that may be refused.
		if out, e = m.list[max(k, -k)-1].behind(out); e != api.OK {
			return api.Mob{}, e
		}
	}
	return out, api.OK
}

// Elements answers what plain words do, each map once, and their first words.
func (m *Mirrors) Elements(most int) ([]api.Mob, [][]int, api.Errno) {
	l, e := m.elements(most)
	if e != api.OK {
		return nil, nil, e
	}
	maps, firsts := make([]api.Mob, 0, len(l)), make([][]int, 0, len(l))
	for i, x := range l {
		maps, firsts = append(maps, x.m), append(firsts, l.word(i))
	}
	return maps, firsts, api.OK
}

func (m *Mirrors) checkWord(w []int) api.Errno {
	if !m.there() {
		return api.ErrNil
	}
	for _, k := range w {
		if k == 0 || k < -len(m.list) || k > len(m.list) {
			return api.ErrArg
		}
	}
	return words.Check(w...)
}

func (m *Mirrors) elements(most int) (elements, api.Errno) {
	if e := m.checkMost(most); e != api.OK {
		return nil, e
	}
	turns := make([]func(api.Mob) (api.Mob, api.Errno), 0, len(m.list))
	for _, x := range m.list {
		turns = append(turns, x.behind)
	}
	return found(turns, most)
}

// element is one that was found. Its first word is that of from and one letter
// more; it is also one letter and that of rest.
type element struct {
	m      api.Mob
	depth  int
	from   int
	letter int
	rest   int
}

// elements stand in the order of their first words, what moves nothing first.
type elements []element

func (l elements) word(i int) []int {
	w := make([]int, l[i].depth)
	for k := len(w) - 1; k >= 0; k-- {
		w[k] = l[i].letter
		i = l[i].from
	}
	return w
}

// step is from a number on by a letter.
type step struct {
	from, letter int
}

// search is for elements, as far as it has come.
type search struct {
	list   elements
	met    map[api.Mob]struct{}
	longer map[step]int // of first words: that of from and a letter more
}

// found goes through the plain words of at most most letters.
func found(turns []func(api.Mob) (api.Mob, api.Errno), most int) (elements, api.Errno) {
	s := search{met: map[api.Mob]struct{}{}, longer: map[step]int{}}
	refused := s.meet(element{m: mob.One()})
breadth:
	for i := 0; i < len(s.list) && s.list[i].depth < most; i++ {
		for k, turn := range turns {
			rest, ok := s.rest(i, k+1)
			if !ok {
				continue
			}
			m, e := turn(s.list[i].m)
			if e == api.OK {
				e = s.meet(element{m: m, depth: s.list[i].depth + 1, from: i, letter: k + 1, rest: rest})
			}
			if e != api.OK {
				refused = e
				break breadth
			}
		}
	}
	if refused != api.OK {
		return nil, refused
	}
	return s.list, api.OK
}

// rest finds what the first word of i and a letter more is without its first
// letter. Where that is no first word, a word ahead of this one does the same,
// so that its map was there already, or was refused. Where the letter is the
// last one once more, the word is not plain.
func (s *search) rest(i, letter int) (int, bool) {
	switch {
	case i == 0:
		return 0, true
	case s.list[i].letter == letter:
		return 0, false
	}
	n, ok := s.longer[step{s.list[i].rest, letter}]
	return n, ok
}

// meet keeps an element, if it is not there yet.
func (s *search) meet(x element) api.Errno {
	if _, ok := s.met[x.m]; ok {
		return api.OK
	}
	if len(s.list) == api.MaxElems {
		return api.ErrMany
	}
	s.met[x.m] = struct{}{}
	s.longer[step{x.from, x.letter}] = len(s.list)
	s.list = append(s.list, x)
	return api.OK
}
