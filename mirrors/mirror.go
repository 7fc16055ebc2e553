package mirrors

import (
	"tracery/api"
	"tracery/circ"
	"tracery/mob"
)

// mirror is one of them, with the turning over it.
type mirror struct {
	circle api.Circle
	side   int
	over   api.Mob
}

// hides tells whether a point that may be is behind the mirror.
func (x mirror) hides(p api.Point) bool {
	side, _ := circ.Side(x.circle, p) // which refuses only what may not be
	return side == -x.side
}

// What the turning makes of a point, of a circle, and of a map that was done
// ahead of it.

func (x mirror) point(p api.Point) (api.Point, api.Errno) { return mob.At(x.over, p) }

func (x mirror) wall(c api.Circle) (api.Circle, api.Errno) { return circ.Image(x.over, c) }

func (x mirror) behind(m api.Mob) (api.Mob, api.Errno) { return mob.Compose(x.over, m) }

func checkPoint(p api.Point) api.Errno {
	_, e := mob.At(mob.One(), p)
	return e
}
