package tiles

import (
	"slices"

	"tracery/api"
	"tracery/mob"
)

// numbersSides tells whether each number's magnitude is that of one of n sides.
func numbersSides(way []int, n int) bool {
	for _, k := range way {
		if k == 0 || k < -n || k > n {
			return false
		}
	}
	return true
}

// renamed answers the way with the first number that stands for each map. The
// sides of a tiling often come in pairs whose maps undo each other: so what goes
// there and back cancels, by whichever sides it goes.
func renamed(maps []api.Mob, way []int) []int {
	names := make([]int, 0, len(maps))
	for k, m := range maps {
		names = append(names, nameOf(m, maps[:k+1]))
	}
	l := make([]int, 0, len(way))
	for _, n := range way {
		if n < 0 {
			l = append(l, -names[-n-1])
		} else {
			l = append(l, names[n-1])
		}
	}
	return l
}

// nameOf answers the number that stands for m, which is the last one of maps.
func nameOf(m api.Mob, maps []api.Mob) int {
	back, _ := mob.Inverse(m) // a zero map, which no other one is, if that is too big
	for k, n := range maps {
		switch n {
		case m:
			return k + 1
		case back:
			return -k - 1
		}
	}
	return len(maps)
}

// pulls answers what the way's maps do to forms, that of the last one first.
func pulls(maps []api.Mob, way []int) []*pull {
	made, l := map[int]*pull{}, make([]*pull, 0, len(way))
	for _, n := range slices.Backward(way) {
		p, ok := made[n]
		if !ok {
			p = pullOf(moveOf(maps, n))
			made[n] = p
		}
		l = append(l, p)
	}
	return l
}

// moveOf answers what a number of a way stands for.
func moveOf(maps []api.Mob, n int) matrix {
	if n < 0 {
		return matrixOf(maps[-n-1]).inverse()
	}
	return matrixOf(maps[n-1])
}
