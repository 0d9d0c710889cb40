// Package float gives access to the bits of IEEE 754 double-precision numbers: see doc/01-float.md.
package float

import "ulpwright/api"

// A number is its sign, then expBits of EXP, then fracBits of FRAC.
const (
	fracBits = 52
	expBits  = 11
	fracEnd  = 1 << fracBits  // FRAC is less than this
	expLast  = 1<<expBits - 1 // the EXP of CInf and CNan
	expBias  = 1075           // FRAC counts units of 2^(EXP - expBias)
)

// Class tells what kind of number x is: P1.1.
func Class(x uint64) int {
	_, exp, frac := Parts(x)
	switch {
	case exp == 0 && frac == 0:
		return api.CZero
	case exp == 0:
		return api.CSmall
	case exp < expLast:
		return api.CNormal
	case frac == 0:
		return api.CInf
	}
	return api.CNan
}

// Parts returns the sign, EXP and FRAC: P1.1.
func Parts(x uint64) (bool, int, uint64) {
	return negative(x), int(Abs(x) >> fracBits), x % fracEnd
}

// Make is the inverse of Parts: P1.1.
func Make(neg bool, exp int, frac uint64) (uint64, api.Errno) {
	if exp < 0 || exp > expLast || frac >= fracEnd {
		return 0, api.ErrArg
	}
	x := uint64(exp)<<fracBits | frac
	if neg {
		x = Neg(x)
	}
	return x, api.OK
}

// Neg inverts the sign of any x: P1.1.
func Neg(x uint64) uint64 { return x ^ api.Sign }

// Abs clears the sign of any x: P1.1.
func Abs(x uint64) uint64 { return x &^ api.Sign }

// Rank returns the place of x in the order of the numbers by value: P1.2.
func Rank(x uint64) (int, api.Errno) {
	if Class(x) == api.CNan {
		return 0, api.ErrNone
	}
	rank := int(Abs(x))
	if negative(x) {
		rank = -rank
	}
	return rank, api.OK
}

// Of returns the number with a Rank: P1.2.
func Of(rank int) (uint64, api.Errno) {
	switch {
	case rank < -api.MaxRank || rank > api.MaxRank:
		return 0, api.ErrArg
	case rank < 0:
		return Neg(uint64(-rank)), api.OK
	}
	return uint64(rank), api.OK
}

// Next returns the number whose Rank is greater by 1: P1.3.
func Next(x uint64) uint64 {
	switch {
	case Class(x) == api.CNan:
		return api.Nan
	case x == api.Inf:
		return x
	case x == api.Sign:
		return 1 // both zeros have the Rank 0, so the step down to 0 is skipped
	case negative(x):
		return x - 1
	}
	return x + 1
}

// Prev returns the number whose Rank is smaller by 1: P1.3.
func Prev(x uint64) uint64 {
	if Class(x) == api.CNan {
		return api.Nan // it has no sign that could be inverted back
	}
	return Neg(Next(Neg(x)))
}

// Ulp returns the k for which an increase of FRAC by 1 increases the value by 2^k: P1.3.
func Ulp(x uint64) (int, api.Errno) {
	_, exp, _ := Parts(x)
	if exp == expLast {
		return 0, api.ErrNone
	}
	// The numbers with EXP 0 share the unit of those with EXP 1.
	return max(exp, 1) - expBias, api.OK
}

func negative(x uint64) bool { return x >= api.Sign }
