package fixed

import (
	"math/big"

	"tracery/api"
)

// sign is a map's sign on its way: the one number over the other one, which is
// not 0. It may have any length.
type sign struct {
	over, under long
}

// signOf is for maps that may be, and that do not turn.
func signOf(m api.Mob) sign {
	w := matrixOf(m)
	return sign{over: w.trace().times(w.trace()), under: w.det()}
}

func (s sign) same(t sign) bool { return s.over.times(t.under).same(t.over.times(s.under)) }

func (s sign) told() (api.Gauss, api.Errno) { return s.over.over(s.under) }

// asked answers what tells whether the sign is below a number (-1), the same (0)
// or above (1), if it is real.
func (s sign) asked() (func(n int64) int, bool) {
	// Both times the conjugate of the lower one, so that this is above 0.
	num, den := s.over.times(s.under.conj()), s.under.norm()
	against := func(n int64) int { return num.re.Cmp(times(den, big.NewInt(n))) }
	return against, num.im.Sign() == 0
}

// kindOf is for maps that may be.
func kindOf(m api.Mob) api.MobKind {
	switch {
	case m.Turns:
		return api.MobTurns
	case still(m):
		return api.MobStill
	}
	against, isReal := signOf(m).asked()
	switch {
	case !isReal, against(0) < 0:
		return api.MobSpiral
	case against(4) < 0:
		return api.MobRound
	case against(4) > 0:
		return api.MobAway
	}
	return api.MobShift
}
