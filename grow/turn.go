package grow

import (
	"slices"

	"ulpwright/api"
	"ulpwright/dyad"
	"ulpwright/float"
)

// Other than 0, the coordinates of Turn are of absolute values from 2^-400 to 2^400.
const (
	least    = (1023 - 400) << 52
	greatest = (1023 + 400) << 52
)

// Turn returns the orientation of three points: P11.3.
func Turn(ax, ay, bx, by, cx, cy uint64) (int, api.Errno) {
	all := []uint64{ax, ay, bx, by, cx, cy}
	switch {
	case slices.ContainsFunc(all, lacksValue):
		return 0, api.ErrNone
	case slices.ContainsFunc(all, isFar):
		return 0, api.ErrLarge
	}
	// In this range, the products are far from the limits of package dyad.
	product := func(x, x0, y, y0 uint64) api.Dyad {
		dx, _ := dyad.Sub(value(x), value(x0))
		dy, _ := dyad.Sub(value(y), value(y0))
		p, _ := dyad.Mul(dx, dy)
		return p
	}
	n, _ := dyad.Cmp(product(ax, cx, by, cy), product(ay, cy, bx, cx))
	return n, api.OK
}

// isFar reports whether a number that has a value is not 0 and outside of the range of Turn.
func isFar(x uint64) bool {
	size := float.Abs(x) // of numbers without a sign, the larger one has the larger bits
	return !isZero(x) && (size < least || size > greatest)
}
