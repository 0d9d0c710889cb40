package quot

import (
	"ulpwright/api"
	"ulpwright/dyad"
	"ulpwright/float"
	"ulpwright/nat"
	"ulpwright/round"
)

// Rem returns what the nearest integer multiple of y leaves of x, which is exact: P7.3.
func Rem(x, y uint64) uint64 {
	cx, cy := float.Class(x), float.Class(y)
	switch {
	case cx == api.CNan || cy == api.CNan || cx == api.CInf || cy == api.CZero:
		return api.Nan
	case cy == api.CInf:
		return x
	}
	c, _ := dyad.Of(x)
	d, _ := dyad.Of(y)
	unit := min(c.Exp, d.Exp)
	rest, over := nearest(inUnits(c, unit), inUnits(d, unit))
	if len(rest) == 0 {
		return x & api.Sign
	}
	r, _ := dyad.Make(c.Neg != over, rest, unit)
	result, _, _ := round.To(r, api.MNear)
	return result
}

// inUnits returns the absolute value of d in units of 2^exp, where exp is at most Exp of d.
func inUnits(d api.Dyad, exp int) []uint32 {
	mant, _, _ := nat.Shift(d.Mant, d.Exp-exp)
	return mant
}

// nearest returns the distance from a to the nearest multiple of b, of two equally near ones to the even one,
// and reports whether this multiple is greater than a.
func nearest(a, b []uint32) ([]uint32, bool) {
	n, below, _ := nat.Div(a, b)
	above, _ := nat.Sub(b, below)
	order, _ := nat.Cmp(below, above)
	if order > 0 || order == 0 && isOdd(n) {
		return above, true
	}
	return below, false
}

func isOdd(a []uint32) bool { return len(a) > 0 && a[0]%2 == 1 }
