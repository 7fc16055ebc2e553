package group

import (
	"cmp"
	"sort"

	"tracery/api"
)

// element is one that is told. Its first word is that of from and one letter
// more; it is also one letter and that of rest.
type element struct {
	m     api.Mob
	depth int
	from  int
	place int // of the last letter
	rest  int
}

// elements stand in their order: so by depth, and by from and place.
type elements []element

func (l elements) member(i int) api.Member { return api.Member{Map: l[i].m, Word: l.word(i)} }

func (l elements) word(i int) []int {
	w := make([]int, l[i].depth)
	for k := len(w) - 1; k >= 0; k-- {
		w[k] = letterAt(l[i].place)
		i = l[i].from
	}
	return w
}

// begin answers where those of a depth, and of more, begin.
func (l elements) begin(depth int) int {
	return sort.Search(len(l), func(i int) bool { return l[i].depth >= depth })
}

// longer finds the element whose first word is that of from and a letter more.
func (l elements) longer(from, place int) (int, bool) {
	return sort.Find(len(l), func(i int) int {
		return cmp.Or(cmp.Compare(from, l[i].from), cmp.Compare(place, l[i].place))
	})
}

// rest finds what the first word of i and a letter more is without its first
// letter, and whether that is a first word.
func (l elements) rest(i, place int) (int, bool) {
	if i == 0 {
		return 0, true
	}
	return l.longer(l[i].rest, place)
}
