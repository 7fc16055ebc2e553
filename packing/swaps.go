package packing

import "tracery/api"

// onward answers what tells, each time that it is called, the next row of swaps
// in their order, and the four behind it. It keeps the fours behind the
// beginnings of that row, and no others.
func onward(four [4]api.Disk) func() ([]int, quad) {
	var swaps []int
	pile := []quad{quadOf(four)}
	return func() ([]int, quad) {
		kept := 0
		swaps, kept = following(swaps)
		pile = pile[:kept+1]
		for _, i := range swaps[kept:] {
			pile = append(pile, pile[len(pile)-1].changed(i))
		}
		return swaps, pile[len(swaps)]
	}
}

// following answers the row of swaps behind another one in their order, and how
// many of the first swaps both have in common. It writes over that other one.
func following(swaps []int) ([]int, int) {
	size := len(swaps)
	for kept := size - 1; kept >= 0; kept-- {
		if i := least(swaps[:kept], swaps[kept]+1); i < 4 {
			return filled(append(swaps[:kept], i), size), kept
		}
	}
	return filled(swaps[:0], size+1), 0
}

// filled answers the first row of so many swaps that begins like this one.
func filled(swaps []int, size int) []int {
	for len(swaps) < size {
		swaps = append(swaps, least(swaps, 0))
	}
	return swaps
}

// least answers the least number, from one on, that may stand behind the swaps.
func least(swaps []int, from int) int {
	if len(swaps) > 0 && swaps[len(swaps)-1] == from {
		return from + 1
	}
	return from
}

// inRow tells whether the numbers are swaps of which no two neighbours are the
// same.
func inRow(swaps []int) bool {
	for k, i := range swaps {
		if i < 0 || i > 3 || k > 0 && swaps[k-1] == i {
			return false
		}
	}
	return true
}

// descent answers the swaps that lead to the root of four that touch each
// other, up to MaxList of them, and whether they do. The bends alone tell which
// they are, so that no other number is reckoned on the way.
func descent(four [4]api.Disk) (swaps []int, ends bool) {
	bends := bendsOf(four)
	for {
		i, falls := bends.falling()
		switch {
		case !falls:
			return swaps, true
		case len(swaps) == api.MaxList:
			return swaps, false
		}
		bends, swaps = bends.changed(i), append(swaps, i)
	}
}
