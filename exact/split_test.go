package exact_test

import (
	"math"
	"math/bits"
	"testing"

	"ulpwright/api"
	"ulpwright/exact"
)

func TestSplit(t *testing.T) {
	for _, c := range []struct {
		x    uint64
		bits int
		h, l uint64
	}{
		{0x4009000000000000, 2, three, 0x3fc0000000000000}, // 3.125
		{0x4009000000000000, 1, two, 0x3ff2000000000000},
		{0x4009000000000000, 3, three, 0x3fc0000000000000},
		{0x4009000000000000, 4, three, 0x3fc0000000000000},
		{0x4009000000000000, 5, 0x4009000000000000, 0},
		{neg | 0x4009000000000000, 2, neg | three, neg | 0x3fc0000000000000},
		{neg | 0x4009000000000000, 5, neg | 0x4009000000000000, 0},
		// Truncated, not rounded.
		{api.One - 1, 1, half, half - 2},
		{neg | api.One - 1, 1, neg | half, neg | half - 2},
		{two - 1, 52, two - 2, 0x3cb0000000000000},
		{api.Most, 1, top, top - 2},
		{api.Most, 52, api.Most - 1, step},
		{neg | api.Most, 26, neg | 0x7feffffff8000000, neg | 0x7e4ffffffc000000},
		{api.One + 1, 52, api.One, 0x3cb0000000000000},
		{api.One + 2, 52, api.One + 2, 0},
		{top, 1, top, 0}, {minusOne, 1, minusOne, 0},
		// The highest bit is that of the value, also below the numbers with 53 bits.
		{1, 1, 1, 0}, {3, 1, 2, 1}, {3, 2, 3, 0}, {7, 2, 6, 1}, {neg | 7, 1, neg | 4, neg | 3}, {5, 2, 4, 1}, {5, 52, 5, 0},
		{small, 1, 1 << 51, 1<<51 - 1}, {small, 51, small - 1, 1}, {small, 52, small, 0}, {smallest + 1, 52, smallest, 1}, {neg | smallest + 3, 52, neg | smallest + 2, neg | 1},
		// Zeros.
		{0, 1, 0, 0}, {neg, 3, neg, 0}, {0, 52, 0, 0}, {neg, 52, neg, 0},
	} {
		checkSplit(t, c.x, c.bits, result{s: c.h, r: c.l})
		checkSplit(t, c.x, c.bits, expectSplit(c.x, c.bits))
	}
}

// A number without a value is reported before bits outside of the range.
func TestSplitErrors(t *testing.T) {
	wrong := []int{0, -1, -52, 53, 54, 64, 1 << 32, 1<<32 + 1, math.MinInt, math.MaxInt, -20000, 20000}
	for _, n := range append(wrong, 1, 26, 52) {
		for _, x := range nothings {
			checkSplit(t, x, n, result{e: api.ErrNone})
		}
	}
	for _, n := range wrong {
		for _, x := range samples() {
			if hasValue(x) {
				checkSplit(t, x, n, result{e: api.ErrArg})
			}
		}
	}
}

func TestSplitSamples(t *testing.T) {
	for _, x := range samples() {
		for n := -1; n <= 54; n++ {
			checkSplit(t, x, n, expectSplit(x, n))
		}
	}
}

// Numbers of all sizes: both parts together are the number, and neither has more bits than it may have.
func TestSplitSizes(t *testing.T) {
	r := noise(0x9e3779b97f4a7c15)
	for exp := range 2047 {
		for n := 1; n <= 52; n++ {
			x := r.number(exp, exp)
			checkSplit(t, x, n, expectSplit(x, n))
			h, l, _ := exact.Split(x, n)
			if preciseSum(h, l).Cmp(precise(x)) != 0 || precise(h).MinPrec() > uint(n) || precise(l).MinPrec() > uint(53-n) {
				t.Errorf("Split(%#x, %d) = %#x, %#x", x, n, h, l)
			}
		}
	}
}

// All lengths of numbers below those with 53 bits.
func TestSplitSmall(t *testing.T) {
	r := noise(0x2545f4914f6cdd1d)
	for length := 1; length <= 52; length++ {
		for n := 1; n <= 52; n++ {
			x := r.next()>>(64-length) | 1<<(length-1)
			checkSplit(t, x, n, expectSplit(x, n))
			checkSplit(t, neg|x, n, expectSplit(neg|x, n))
			if h, _, _ := exact.Split(x, n); bits.Len64(h) != length {
				t.Errorf("Split(%#x, %d) = %#x: the highest bit is lost", x, n, h)
			}
		}
	}
}
