package nat

import (
	"math"
	"math/bits"

	"ulpwright/api"
)

// Div returns the quotient, rounded down, and the remainder: P2.2.
func Div(a, b []uint32) ([]uint32, []uint32, api.Errno) {
	if e := checkBoth(a, b); e != api.OK {
		return nil, nil, e
	}
	switch {
	case len(b) == 0:
		return nil, nil, api.ErrArg
	case compare(a, b) < 0:
		return nil, clone(a), api.OK
	}
	quotient, rest := divide(a, b)
	return quotient, rest, api.OK
}

// divide is the long division of a by b, where 0 < b <= a: one limb of the quotient at a time.
func divide(a, b []uint32) ([]uint32, []uint32) {
	// Both are shifted so that the highest bit of the divisor is 1: see quotientLimb.
	shift := bits.LeadingZeros32(b[len(b)-1])
	divisor := shiftUp(b, shift)
	rest := make([]uint32, len(a)+1)
	copy(rest, shiftUp(a, shift))
	quotient := make([]uint32, len(a)-len(b)+1)
	for i := len(quotient) - 1; i >= 0; i-- {
		quotient[i] = quotientLimb(rest[i:i+len(b)+1], divisor)
	}
	return trim(quotient), shiftDown(trim(rest), shift)
}

// quotientLimb divides rest, which has one limb more than divisor and is less than divisor times 2^32:
// it returns the quotient and leaves the remainder in rest.
func quotientLimb(rest, divisor []uint32) uint32 {
	top := len(divisor) - 1
	two := uint64(rest[top+1])<<limbBits | uint64(rest[top])
	guess := uint32(min(two/uint64(divisor[top]), math.MaxUint32))
	below := subTimes(rest, divisor, guess)
	// The guess is never too small, and too large by at most 2, as the highest bit of divisor is 1.
	for below {
		guess--
		below = addTo(rest, divisor) == 0
	}
	return guess
}

// subTimes subtracts b times n from a, which has one limb more than b, in place. It reports whether
// the difference is below 0; then a is greater than it by 2^32 to the power of len(a).
func subTimes(a, b []uint32, n uint32) bool {
	borrow := uint64(0)
	for i, limb := range b {
		borrow += uint64(limb) * uint64(n)
		low := uint32(borrow)
		borrow >>= limbBits
		if a[i] < low {
			borrow++
		}
		a[i] -= low
	}
	top := a[len(b)]
	a[len(b)] -= uint32(borrow)
	return uint64(top) < borrow
}
