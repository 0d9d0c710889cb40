package prod_test

import (
	"math"
	"testing"

	"ulpwright/api"
	"ulpwright/prod"
)

// checkMul compares Mul, with the factors in both orders, with what is expected in all modes.
func checkMul(t *testing.T, x, y uint64, o outcome) {
	t.Helper()
	for _, mode := range modes {
		for _, p := range [][2]uint64{{x, y}, {y, x}} {
			if r, lost, e := prod.Mul(p[0], p[1], mode); r != o.want[mode] || lost != o.lost || e != api.OK {
				t.Errorf("Mul(%#x, %#x, %d) = %#x, %t, %d, want %#x, %t", p[0], p[1], mode, r, lost, e, o.want[mode], o.lost)
			}
		}
	}
}

func TestMul(t *testing.T) {
	over := [5]uint64{api.Inf, api.Inf, api.Most, api.Most, api.Inf}
	minusOver := [5]uint64{neg | api.Inf, neg | api.Most, neg | api.Inf, neg | api.Most, neg | api.Inf}
	below := [5]uint64{0, 1, 0, 0, 0}
	minusBelow := [5]uint64{neg, neg, neg | 1, neg, neg}
	for _, c := range []struct {
		x, y uint64
		outcome
	}{
		// Products that are numbers.
		{two, three, outcome{same(0x4018000000000000), false}},
		{two, minusOne, outcome{same(neg | two), false}},
		{minusOne, minusOne, outcome{same(api.One), false}},
		{api.Most, api.One, outcome{same(api.Most), false}},
		{small, two, outcome{same(2 * small), false}},
		{smallest, half, outcome{same(1 << 51), false}},
		{root, root, outcome{same(1), false}},
		{root, neg | root, outcome{same(neg | 1), false}},
		{1, 0x7fe0000000000000, outcome{same(0x3cc0000000000000), false}},
		// Products between numbers.
		{api.One + 1, api.One + 1, outcome{[5]uint64{api.One + 2, api.One + 3, api.One + 2, api.One + 2, api.One + 2}, true}},
		{api.One + 1, minusOne + 1, outcome{[5]uint64{minusOne + 2, minusOne + 2, minusOne + 3, minusOne + 2, minusOne + 2}, true}},
		{api.One - 1, api.One - 1, outcome{[5]uint64{api.One - 2, api.One - 1, api.One - 2, api.One - 2, api.One - 2}, true}},
		{api.One + 1, 0x3ff8000000000000, outcome{[5]uint64{0x3ff8000000000002, 0x3ff8000000000002, 0x3ff8000000000001, 0x3ff8000000000001, 0x3ff8000000000002}, true}},
		{api.One + 3, 0x3ff8000000000000, outcome{[5]uint64{0x3ff8000000000004, 0x3ff8000000000005, 0x3ff8000000000004, 0x3ff8000000000004, 0x3ff8000000000005}, true}},
		// Products around the smallest numbers.
		{1, half, outcome{[5]uint64{0, 1, 0, 0, 1}, true}},
		{neg | 1, half, outcome{[5]uint64{neg, neg, neg | 1, neg, neg | 1}, true}},
		{1, half - 1, outcome{below, true}},
		{1, half + 1, outcome{[5]uint64{1, 1, 0, 0, 1}, true}},
		{3, half, outcome{[5]uint64{2, 2, 1, 1, 2}, true}},
		{5, half, outcome{[5]uint64{2, 3, 2, 2, 3}, true}},
		{1, 1, outcome{below, true}},
		{1, neg | 1, outcome{minusBelow, true}},
		{small, small, outcome{below, true}},
		{smallest, neg | smallest, outcome{minusBelow, true}},
		{2<<52 - 1, half, outcome{[5]uint64{smallest, smallest, small, small, smallest}, true}},
		// Products beyond all values.
		{api.Most, two, outcome{over, true}},
		{api.Most, neg | two, outcome{minusOver, true}},
		{api.Most, api.Most, outcome{over, true}},
		{api.Most, neg | api.Most, outcome{minusOver, true}},
		{0x5ff0000000000000, 0x5ff0000000000000, outcome{over, true}}, // 2^512
		{api.Most, api.One + 1, outcome{over, true}},
		{0x7fe0000002800000, 0x3ffffffffb000000, outcome{[5]uint64{api.Most, api.Inf, api.Most, api.Most, api.Most}, true}},
		{0x7fe0000002000000, 0x3ffffffffc000000, outcome{over, true}}, // in the middle between api.Most and 2^1024
		// Zeros.
		{0, api.One, outcome{same(0), false}},
		{0, minusOne, outcome{same(neg), false}},
		{neg, api.Most, outcome{same(neg), false}},
		{neg, neg | 1, outcome{same(0), false}},
		{0, 0, outcome{same(0), false}},
		{0, neg, outcome{same(neg), false}},
		{neg, neg, outcome{same(0), false}},
		// Infinities.
		{api.Inf, 1, outcome{same(api.Inf), false}},
		{api.Inf, minusOne, outcome{same(neg | api.Inf), false}},
		{neg | api.Inf, neg | api.Most, outcome{same(api.Inf), false}},
		{api.Inf, api.Inf, outcome{same(api.Inf), false}},
		{api.Inf, neg | api.Inf, outcome{same(neg | api.Inf), false}},
		{neg | api.Inf, neg | api.Inf, outcome{same(api.Inf), false}},
		{api.Inf, 0, outcome{same(api.Nan), false}},
		{api.Inf, neg, outcome{same(api.Nan), false}},
		{neg | api.Inf, 0, outcome{same(api.Nan), false}},
		{neg | api.Inf, neg, outcome{same(api.Nan), false}},
	} {
		checkMul(t, c.x, c.y, c.outcome)
	}
}

// A CNan yields api.Nan, whatever its sign and FRAC are, beside all numbers.
func TestMulOfNan(t *testing.T) {
	for _, nan := range nans {
		for _, x := range append(samples(), nans...) {
			checkMul(t, nan, x, outcome{want: same(api.Nan)})
		}
	}
}

func TestMulSamples(t *testing.T) {
	for _, x := range samples() {
		for _, y := range samples() {
			checkMul(t, x, y, expectMul(x, y))
		}
	}
}

// Factors of all sizes: with products of all sizes, around the smallest numbers and around the largest ones.
func TestMulPairs(t *testing.T) {
	r := noise(0x9e3779b97f4a7c15)
	for exp := range 2047 {
		x := r.number(exp, exp)
		for _, y := range list(r.number(0, 2046), r.number(1023-exp-56, 1025-exp), r.number(3068-exp, 3071-exp)) {
			checkMul(t, x, y, expectMul(x, y))
		}
	}
}

// MNear multiplies like the machine.
func TestMulMachine(t *testing.T) {
	r := noise(0x2545f4914f6cdd1d)
	for range 20000 {
		x := r.number(0, 2046)
		exp := int(x << 1 >> 53)
		y := r.number(960-exp, 3080-exp)
		want := math.Float64bits(math.Float64frombits(x) * math.Float64frombits(y))
		if p, _, e := prod.Mul(x, y, api.MNear); p != want || e != api.OK {
			t.Errorf("Mul(%#x, %#x) = %#x, %d, want %#x", x, y, p, e, want)
		}
	}
}

// An unknown mode is an error before all else, with zero results.
func TestUnknownModes(t *testing.T) {
	for _, mode := range unknown {
		for _, x := range samples() {
			for _, y := range samples() {
				if r, lost, e := prod.Mul(x, y, mode); r != 0 || lost || e != api.ErrArg {
					t.Errorf("Mul(%#x, %#x, %d) = %#x, %t, %d", x, y, mode, r, lost, e)
				}
				for _, z := range list(0, neg, api.One, api.Most, neg|api.Inf, api.Nan) {
					if r, lost, e := prod.Fma(x, y, z, mode); r != 0 || lost || e != api.ErrArg {
						t.Errorf("Fma(%#x, %#x, %#x, %d) = %#x, %t, %d", x, y, z, mode, r, lost, e)
					}
				}
			}
		}
		for _, n := range []int{0, 1, 2, 199, 200, 201, 202, 1001} {
			for _, x := range list(0, api.Most, api.Inf, api.Nan) {
				if r, lost, e := prod.Dot(times(n, x), mode); r != 0 || lost || e != api.ErrArg {
					t.Errorf("Dot of %d times %#x by %d = %#x, %t, %d", n, x, mode, r, lost, e)
				}
			}
		}
	}
}
