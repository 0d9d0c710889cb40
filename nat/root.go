package nat

import "ulpwright/api"

// Root returns the largest number whose square is at most a, and whether a remainder is left: P2.3.
func Root(a []uint32) ([]uint32, bool, api.Errno) {
	n, e := Bits(a)
	if e != api.OK {
		return nil, false, e
	}
	root, rest := squareRoot(a, n)
	return root, len(rest) > 0, api.OK
}

// squareRoot finds the root of a number of n bits, one bit for each pair of bits of a, from the highest
// pair on, and what its square leaves of a.
func squareRoot(a []uint32, n int) ([]uint32, []uint32) {
	const pairs = limbBits / 2 // of a limb
	var twice, rest []uint32   // twice the root R of the pairs so far, and what R^2 leaves of them
	for i := (n+1)/2 - 1; i >= 0; i-- {
		rest = push(rest, 2, a[i/pairs]>>(i%pairs*2)&3)
		// The next root is 2R + 1 if (2R + 1)^2 - (2R)^2 = 4R + 1 is left, and otherwise 2R. Its double
		// is then 4R + 2 or 4R, so that only the lowest limb changes. (R > 0 after the highest pair.)
		twice = push(twice, 1, 1)
		if compare(rest, twice) < 0 {
			twice[0]--
			continue
		}
		subFrom(rest, twice)
		rest = trim(rest)
		twice[0]++
	}
	return shiftDown(twice, 1), rest
}

// push puts n bits after the lowest bit of a, in place where there is room.
func push(a []uint32, n int, low uint32) []uint32 {
	for i, limb := range a {
		wide := uint64(limb)<<n | uint64(low)
		a[i] = uint32(wide)
		low = uint32(wide >> limbBits)
	}
	if low > 0 {
		a = append(a, low)
	}
	return a
}
