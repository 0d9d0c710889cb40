package round

import (
	"ulpwright/api"
	"ulpwright/dyad"
	"ulpwright/nat"
)

// Cut rounds d to an integer multiple of 2^places and reports whether the result differs from d: P4.3.
func Cut(d api.Dyad, places, mode int) (api.Dyad, bool, api.Errno) {
	if e := dyad.Check(d); e != api.OK {
		return api.Dyad{}, false, e
	}
	if !isMode(mode) || places < -maxShift || places > maxShift {
		return api.Dyad{}, false, api.ErrArg
	}
	if isZero(d) || d.Exp >= places {
		same, e := dyad.Shift(d, 0) // a result shares no memory with an argument
		return same, false, e
	}
	whole, left := split(d.Mant, d.Exp-places)
	if left.away(d.Neg, isOdd(whole), mode) {
		whole, _ = nat.Add(whole, nat.Of(1))
	}
	result, e := multiple(d.Neg, whole, places)
	// As d is an odd multiple of a smaller power of two, it is never the result.
	return result, e == api.OK, e
}

func isOdd(a []uint32) bool { return len(a) > 0 && a[0]%2 == 1 }

// multiple returns n times 2^places, negated if neg is true, where places is at least -MaxExp.
func multiple(neg bool, n []uint32, places int) (api.Dyad, api.Errno) {
	switch {
	case len(n) == 0:
		return api.Dyad{}, api.OK
	case places > api.MaxExp:
		return api.Dyad{}, api.ErrLarge
	}
	return dyad.Make(neg, n, places)
}
