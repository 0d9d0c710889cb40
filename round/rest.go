package round

import (
	"ulpwright/api"
	"ulpwright/nat"
)

// rest is what is left of a number beside a whole number of units: half tells whether this is at least half
// a unit, and more whether it is neither 0 nor a half.
type rest struct{ half, more bool }

// split returns mant times 2^n as a whole number and a rest. The whole number must not have more limbs than
// package nat accepts.
func split(mant []uint32, n int) ([]uint32, rest) {
	// The longest shift leaves no bit of any mantissa; so it serves for those that would be even longer.
	halves, more, _ := nat.Shift(mant, max(n+1, -maxShift))
	whole, half, _ := nat.Shift(halves, -1)
	return whole, rest{half, more}
}

// away tells whether a number is rounded away from 0: it has the sign neg, and r is left of its absolute
// value beside a whole number of units, which is odd or even.
func (r rest) away(neg, odd bool, mode int) bool {
	if r == (rest{}) {
		return false
	}
	switch mode {
	case api.MUp:
		return !neg
	case api.MDown:
		return neg
	case api.MZero:
		return false
	case api.MNear:
		return r.half && (r.more || odd)
	}
	return r.half
}
