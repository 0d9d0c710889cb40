package nat

import (
	"bytes"
	"slices"

	"ulpwright/api"
)

// The digits of a group are split off at once: groupEnd is the largest power of ten in a limb.
const (
	groupDigits = 9
	groupEnd    = 1_000_000_000
)

// Text returns the number in decimal without leading zeros: P2.3.
func Text(a []uint32) (string, api.Errno) {
	if e := Check(a); e != api.OK {
		return "", e
	}
	if len(a) == 0 {
		return "0", api.OK
	}
	var digits []byte // the lowest first
	for rest := clone(a); len(rest) > 0; rest = trim(rest) {
		group := divideBy(rest, groupEnd)
		for range groupDigits {
			digits = append(digits, byte('0'+group%10))
			group /= 10
		}
	}
	digits = bytes.TrimRight(digits, "0")
	slices.Reverse(digits)
	return string(digits), api.OK
}

// divideBy divides a by n in place and returns the remainder.
func divideBy(a []uint32, n uint32) uint32 {
	rest := uint64(0)
	for i := len(a) - 1; i >= 0; i-- {
		rest = rest<<limbBits | uint64(a[i])
		a[i] = uint32(rest / uint64(n))
		rest %= uint64(n)
	}
	return uint32(rest)
}
