package descartes

import (
	"math/big"

	"tracery/api"
)

// Swap answers the four changed at one place.
func Swap(f [4]api.Disk, i int) ([4]api.Disk, api.Errno) { return Swaps(f, i) }

// Swaps answers the four changed at one place behind the other.
func Swaps(f [4]api.Disk, l ...int) ([4]api.Disk, api.Errno) {
	if len(l) > api.MaxList {
		return [4]api.Disk{}, api.ErrLong
	}
	for _, i := range l {
		if i < 0 || i >= len(f) {
			return [4]api.Disk{}, api.ErrArg
		}
	}
	w, e := taken(f)
	for _, i := range l {
		if e != api.OK {
			break
		}
		w, e = w.changed(i)
	}
	return w.disks, e
}

// Root answers what four come to, if the greatest Bend is made less as long as
// that goes, and the places at which they were changed.
func Root(f [4]api.Disk) ([4]api.Disk, []int, api.Errno) {
	w, e := taken(f)
	switch {
	case e != api.OK:
		return [4]api.Disk{}, nil, e
	case w.rows[bend].total().Sign() <= 0:
		return [4]api.Disk{}, nil, api.ErrNone
	}
	var places []int
descent:
	for {
		i := w.greatest()
		next, e := w.lowered(i)
		switch {
		case next.disks == w.disks:
			break descent
		case len(places) == api.MaxList:
			return [4]api.Disk{}, nil, api.ErrLong
		case e != api.OK:
			return [4]api.Disk{}, nil, e
		}
		w, places = next, append(places, i)
	}
	return w.disks, places, api.OK
}

// Rule tells whether the Bends, the Mids, and both together keep the rule of
// four that touch.
func Rule(f [4]api.Disk) (bends, mids, both bool, e api.Errno) {
	if !allMay(f[:]...) {
		return false, false, false, api.ErrArg
	}
	l := rowsOf(f)
	b, x, y := l[bend], l[re], l[im]
	// What stands under the parts of the Mids need not be the same.
	fair := times(x.gap(x), square(y.under)).Cmp(times(y.gap(y), square(x.under))) == 0
	return b.gap(b).Sign() == 0, fair && x.gap(y).Sign() == 0, b.gap(x).Sign() == 0 && b.gap(y).Sign() == 0, api.OK
}

// four are four disks that touch each other, and number by number what they are
// reckoned with. To change one makes no new factor under a row.
type four struct {
	disks [4]api.Disk
	rows  [4]form
}

// taken answers the four as they are reckoned with, if they may be and touch
// each other.
func taken(f [4]api.Disk) (four, api.Errno) {
	switch {
	case !allMay(f[:]...):
		return four{}, api.ErrArg
	case !touching(f[:]...):
		return four{}, api.ErrTouch
	}
	return four{disks: f, rows: rowsOf(f)}, api.OK
}

// rowsOf answers each number of four disks, which may be, in one row.
func rowsOf(f [4]api.Disk) [4]form {
	return [4]form{
		bend: fractions(f[0].Bend, f[1].Bend, f[2].Bend, f[3].Bend),
		re:   fractions(f[0].Mid.Re, f[1].Mid.Re, f[2].Mid.Re, f[3].Mid.Re),
		im:   fractions(f[0].Mid.Im, f[1].Mid.Im, f[2].Mid.Im, f[3].Mid.Im),
		co:   fractions(f[0].Co, f[1].Co, f[2].Co, f[3].Co),
	}
}

// greatest answers the first place of those with the greatest Bend.
func (w four) greatest() int {
	first, bends := 0, w.rows[bend].parts
	for i, n := range bends {
		if n.Cmp(bends[first]) > 0 {
			first = i
		}
	}
	return first
}

// lowered answers the four changed at i, or as they are, if that makes the Bend
// there no less.
func (w four) lowered(i int) (four, api.Errno) {
	bends := w.rows[bend]
	if bends.other(i).Cmp(bends.parts[i]) >= 0 {
		return w, api.OK
	}
	return w.changed(i)
}

func (w four) changed(i int) (four, api.Errno) {
	numbers := [4]api.Frac{}
	for k, row := range w.rows {
		n := row.other(i)
		x, e := lowest(n, row.under)
		if e != api.OK {
			return four{}, e
		}
		w.rows[k].parts[i], numbers[k] = n, x
	}
	w.disks[i] = diskOf(numbers)
	return w, api.OK
}

// total is that of a row, without what stands under it.
func (f form) total() *big.Int {
	n := new(big.Int)
	for _, part := range f.parts {
		n = plus(n, part)
	}
	return n
}

// other answers twice the sum of the three others in a row less its own number.
func (f form) other(i int) *big.Int {
	others := minus(f.total(), f.parts[i])
	return minus(double(others), f.parts[i])
}

// gap answers the product of both rows' sums less twice the sum of the products
// of each place, without what stands under it.
func (f form) gap(g form) *big.Int {
	s := newSum()
	s.add(1, f.total(), g.total())
	for k, n := range f.parts {
		s.add(-2, n, g.parts[k])
	}
	return s.total
}
