package sum_test

import (
	"math"
	"testing"

	"ulpwright/api"
	"ulpwright/float"
	"ulpwright/sum"
)

// example is the sum of two numbers by MNear, MUp, MDown, MZero and MAway, and whether it is changed.
type example struct {
	x, y uint64
	want [5]uint64
	lost bool
}

// same is a result that does not depend on the mode.
func same(x uint64) [5]uint64 { return [5]uint64{x, x, x, x, x} }

// byDirection is a zero whose sign depends on the mode.
var byDirection = [5]uint64{0, 0, neg, 0, 0}

func examples() []example {
	return []example{
		// The example of the chapter, and the same below 0.
		{api.One, 1, [5]uint64{api.One, api.One + 1, api.One, api.One, api.One}, true},
		{minusOne, neg | 1, [5]uint64{minusOne, minusOne, minusOne + 1, minusOne, minusOne}, true},
		{api.One, neg | 1, [5]uint64{api.One, api.One, api.One - 1, api.One - 1, api.One}, true},
		// Ties.
		{api.One, tie, [5]uint64{api.One, api.One + 1, api.One, api.One, api.One + 1}, true},
		{api.One + 1, tie, [5]uint64{api.One + 2, api.One + 2, api.One + 1, api.One + 1, api.One + 2}, true},
		{minusOne, neg | tie, [5]uint64{minusOne, minusOne, minusOne + 1, minusOne, minusOne + 1}, true},
		{api.One, neg | quarter, [5]uint64{api.One, api.One, api.One - 1, api.One - 1, api.One}, true},
		// Sums that are numbers.
		{api.One, half, same(0x3ff8000000000000), false},
		{api.One, minusOne + 1, same(neg | 0x3cb0000000000000), false},
		{api.One, neg | tie, same(api.One - 1), false},
		{api.One, 0, same(api.One), false},
		{neg, neg | 5, same(neg | 5), false},
		{1, 2, same(3), false},
		{small, 1, same(smallest), false},
		{smallest, neg | 1, same(small), false},
		{neg | small, neg | small, same(neg | 2*small), false},
		{api.Most, neg | step, same(api.Most - 1), false},
		// Beyond all values.
		{api.Most, api.Most, [5]uint64{api.Inf, api.Inf, api.Most, api.Most, api.Inf}, true},
		{neg | api.Most, neg | api.Most, [5]uint64{neg | api.Inf, neg | api.Most, neg | api.Inf, neg | api.Most, neg | api.Inf}, true},
		{api.Most, overTie, [5]uint64{api.Inf, api.Inf, api.Most, api.Most, api.Inf}, true},
		{api.Most, overTie - 1, [5]uint64{api.Most, api.Inf, api.Most, api.Most, api.Most}, true},
		{api.Most, step, [5]uint64{api.Inf, api.Inf, api.Most, api.Most, api.Inf}, true},
		{api.Most, neg | 1, [5]uint64{api.Most, api.Most, api.Most - 1, api.Most - 1, api.Most}, true},
		// Sums of 0.
		{0, 0, same(0), false},
		{neg, neg, same(neg), false},
		{0, neg, byDirection, false},
		{api.One, minusOne, byDirection, false},
		{1, neg | 1, byDirection, false},
		{api.Most, neg | api.Most, byDirection, false},
		// Infinities.
		{api.Inf, neg | api.Inf, same(api.Nan), false},
		{api.Inf, api.Inf, same(api.Inf), false},
		{neg | api.Inf, neg | api.Inf, same(neg | api.Inf), false},
		{api.Inf, minusOne, same(api.Inf), false},
		{api.Inf, neg | api.Most, same(api.Inf), false},
		{neg | api.Inf, api.Most, same(neg | api.Inf), false},
		{neg | api.Inf, 0, same(neg | api.Inf), false},
		{api.Inf, neg, same(api.Inf), false},
	}
}

func TestAdd(t *testing.T) {
	for _, c := range examples() {
		for _, mode := range modes {
			for _, p := range [][2]uint64{{c.x, c.y}, {c.y, c.x}} {
				if x, lost, e := sum.Add(p[0], p[1], mode); x != c.want[mode] || lost != c.lost || e != api.OK {
					t.Errorf("Add(%#x, %#x, %d) = %#x, %t, %d, want %#x", p[0], p[1], mode, x, lost, e, c.want[mode])
				}
			}
		}
	}
}

func TestSub(t *testing.T) {
	for _, c := range []example{
		{api.One, tie, same(api.One - 1), false},
		{api.One, neg | tie, [5]uint64{api.One, api.One + 1, api.One, api.One, api.One + 1}, true},
		{api.One, 1, [5]uint64{api.One, api.One, api.One - 1, api.One - 1, api.One}, true},
		{1, 3, same(neg | 2), false},
		{0, api.One, same(minusOne), false},
		{api.Most, neg | api.Most, [5]uint64{api.Inf, api.Inf, api.Most, api.Most, api.Inf}, true},
		{api.One, api.One, byDirection, false},
		{0, 0, byDirection, false},
		{neg, neg, byDirection, false},
		{0, neg, same(0), false},
		{neg, 0, same(neg), false},
		{api.Inf, api.Inf, same(api.Nan), false},
		{neg | api.Inf, neg | api.Inf, same(api.Nan), false},
		{api.Inf, neg | api.Inf, same(api.Inf), false},
		{api.One, api.Inf, same(neg | api.Inf), false},
		{api.One, neg | api.Inf, same(api.Inf), false},
	} {
		for _, mode := range modes {
			if x, lost, e := sum.Sub(c.x, c.y, mode); x != c.want[mode] || lost != c.lost || e != api.OK {
				t.Errorf("Sub(%#x, %#x, %d) = %#x, %t, %d, want %#x", c.x, c.y, mode, x, lost, e, c.want[mode])
			}
		}
	}
}

// A CNan yields api.Nan, whatever its sign and FRAC are, beside all numbers.
func TestNan(t *testing.T) {
	for _, nan := range nans {
		for _, x := range samples() {
			for _, mode := range modes {
				for _, p := range [][2]uint64{{nan, x}, {x, nan}} {
					if r, lost, e := sum.Add(p[0], p[1], mode); r != api.Nan || lost || e != api.OK {
						t.Errorf("Add(%#x, %#x, %d) = %#x, %t, %d", p[0], p[1], mode, r, lost, e)
					}
					if r, lost, e := sum.Sub(p[0], p[1], mode); r != api.Nan || lost || e != api.OK {
						t.Errorf("Sub(%#x, %#x, %d) = %#x, %t, %d", p[0], p[1], mode, r, lost, e)
					}
				}
			}
		}
	}
}

// checkPair compares Add and Sub with expect, in all modes.
func checkPair(t *testing.T, x, y uint64) {
	t.Helper()
	for _, mode := range modes {
		want, changed := expect([]uint64{x, y}, mode)
		if r, lost, e := sum.Add(x, y, mode); r != want || lost != changed || e != api.OK {
			t.Errorf("Add(%#x, %#x, %d) = %#x, %t, %d, want %#x, %t", x, y, mode, r, lost, e, want, changed)
		}
		if r, lost, e := sum.Sub(x, float.Neg(y), mode); r != want || lost != changed || e != api.OK {
			t.Errorf("Sub(%#x, %#x, %d) = %#x, %t, %d, want %#x, %t", x, float.Neg(y), mode, r, lost, e, want, changed)
		}
	}
}

func TestSamples(t *testing.T) {
	for _, x := range samples() {
		for _, y := range samples() {
			checkPair(t, x, y)
		}
	}
}

// Numbers of all sizes, at all distances from each other at which both bear on the result, and beyond.
func TestPairs(t *testing.T) {
	r := noise(0x9e3779b97f4a7c15)
	for exp := range uint64(2047) {
		x := r.number(exp, exp)
		checkPair(t, x, r.number(exp-min(exp, 60), exp))
		checkPair(t, r.number(0, 2046), x)
	}
}

// MNear adds like the machine.
func TestMachine(t *testing.T) {
	r := noise(0x2545f4914f6cdd1d)
	for range 20000 {
		x := r.number(0, 2046)
		exp := x << 1 >> 53
		y := r.number(exp-min(exp, 56), min(exp+56, 2046))
		f, g := math.Float64frombits(x), math.Float64frombits(y)
		if s, _, e := sum.Add(x, y, api.MNear); s != math.Float64bits(f+g) || e != api.OK {
			t.Errorf("Add(%#x, %#x) = %#x, %d, want %#x", x, y, s, e, math.Float64bits(f+g))
		}
		if s, _, e := sum.Sub(x, y, api.MNear); s != math.Float64bits(f-g) || e != api.OK {
			t.Errorf("Sub(%#x, %#x) = %#x, %d, want %#x", x, y, s, e, math.Float64bits(f-g))
		}
	}
}

// An unknown mode is an error before all else, with zero results.
func TestUnknownModes(t *testing.T) {
	for _, mode := range unknown {
		for _, x := range samples() {
			for _, y := range samples() {
				if r, lost, e := sum.Add(x, y, mode); r != 0 || lost || e != api.ErrArg {
					t.Errorf("Add(%#x, %#x, %d) = %#x, %t, %d", x, y, mode, r, lost, e)
				}
				if r, lost, e := sum.Sub(x, y, mode); r != 0 || lost || e != api.ErrArg {
					t.Errorf("Sub(%#x, %#x, %d) = %#x, %t, %d", x, y, mode, r, lost, e)
				}
			}
		}
		for _, n := range []int{0, 1, 200, 201, 1000} {
			for _, x := range []uint64{0, api.Most, api.Inf, api.Nan} {
				if r, lost, e := sum.All(times(n, x), mode); r != 0 || lost || e != api.ErrArg {
					t.Errorf("All of %d times %#x by %d = %#x, %t, %d", n, x, mode, r, lost, e)
				}
			}
		}
	}
}
