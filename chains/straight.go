package chains

import (
	"math/big"

	"tracery/api"
)

// Straight answers the map that does not turn and sends the row to the strip.
func Straight(row [4]api.Disk) (api.Mob, api.Errno) {
	if e := touching(row); e != api.OK {
		return api.Mob{}, e
	}
	f := laneOf(row)
	m := f.straightening()
	if m.carried(f) != Strip() {
		return api.Mob{}, api.ErrNone
	}
	return m.told()
}

// straightening answers the one map that does not turn and sends the points in
// which the first rail touches the others to where the strip's does: to
// infinity, 0 and 2. No two of these points are the same.
func (f lane) straightening() matrix {
	far, nought, two := f.kiss(rail, otherRail), f.kiss(rail, first), f.kiss(rail, second)
	above, below := two.cross(far), two.cross(nought)
	return matrix{nought.line(above.plus(above)), far.line(below)}
}

// kiss answers the point in which two disks of the row touch: both together are
// a disk without a radius about it.
func (f lane) kiss(i, j int) spot {
	both := f.disks[i].plus(f.disks[j])
	if both[bend].Sign() == 0 {
		return spot{over: short(1), under: short(0)}
	}
	return spot{over: long{re: both[re], im: both[im]}, under: long{re: both[bend], im: new(big.Int)}}
}

// spot is a point: the one number over the other one, infinity if that is 0.
type spot struct {
	over, under long
}

// cross is 0 just if both are the same point.
func (p spot) cross(q spot) long { return p.over.times(q.under).minus(p.under.times(q.over)) }

// line answers the row of a matrix that makes of each point its cross with p,
// so many times: it makes 0 of p alone.
func (p spot) line(by long) [2]long { return [2]long{p.under.times(by), p.over.neg().times(by)} }

// matrix is a map that does not turn on its way, by its two rows. All of it
// times any number but 0 stands for the same map.
type matrix [2][2]long

// told wants a map.
func (m matrix) told() (api.Mob, api.Errno) {
	unit := m[1][0]
	if unit.zero() {
		unit = m[1][1]
	}
	l, e := each([4]long{m[0][0], m[0][1], m[1][0], m[1][1]}, unit.divides)
	return api.Mob{A: l[0], B: l[1], C: l[2], D: l[3]}, e
}

// carried answers what a straightening makes of its row: the strip, or the strip
// turned over the real line, inside out, or both. Disk 0 has the radius 1
// there, so that its Bend's magnitude is what stands under all numbers.
func (m matrix) carried(f lane) [4]api.Disk {
	for k, n := range f.disks {
		f.disks[k] = m.image(n)
	}
	f.under = new(big.Int).Abs(f.disks[first][bend])
	row, _ := f.told()
	return row
}

// image answers a disk's numbers behind the map, all times one that is above 0:
// as a matrix, Co, Mid above conj(Mid), Bend, they go between the map's matrix
// and its conjugate, turned.
func (m matrix) image(n numbers) numbers {
	between := func(x, y [2]long) long {
		mid := long{re: n[re], im: n[im]}
		left := x[0].scaled(n[co]).plus(x[1].times(mid.conj()))
		right := x[0].times(mid).plus(x[1].scaled(n[bend]))
		return left.times(y[0].conj()).plus(right.times(y[1].conj()))
	}
	mid := between(m[0], m[1])
	return numbers{bend: between(m[1], m[1]).re, re: mid.re, im: mid.im, co: between(m[0], m[0]).re}
}
