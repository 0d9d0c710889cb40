package prod_test

import (
	"math"
	"testing"

	"ulpwright/api"
	"ulpwright/float"
	"ulpwright/prod"
)

// checkFma compares Fma, with the factors in both orders, with what is expected in all modes.
func checkFma(t *testing.T, x, y, z uint64, o outcome) {
	t.Helper()
	for _, mode := range modes {
		for _, p := range [][2]uint64{{x, y}, {y, x}} {
			if r, lost, e := prod.Fma(p[0], p[1], z, mode); r != o.want[mode] || lost != o.lost || e != api.OK {
				t.Errorf("Fma(%#x, %#x, %#x, %d) = %#x, %t, %d, want %#x, %t", p[0], p[1], z, mode, r, lost, e, o.want[mode], o.lost)
			}
		}
	}
}

// fmaExample is the result of Fma in all modes.
type fmaExample struct {
	x, y, z uint64
	outcome
}

func TestFma(t *testing.T) {
	over := [5]uint64{api.Inf, api.Inf, api.Most, api.Most, api.Inf}
	for _, c := range []fmaExample{
		{two, three, api.One, outcome{same(0x401c000000000000), false}}, // the example of the chapter
		{two, neg | three, api.One, outcome{same(neg | 0x4014000000000000), false}},
		{api.One, three, neg | two, outcome{same(api.One), false}},
		// A single rounding.
		{api.One + 1, api.One + 1, neg | api.One + 2, outcome{same(0x3970000000000000), false}},
		{api.Most, two, neg | api.Most, outcome{same(api.Most), false}},
		{api.Most, api.Most, neg | api.Most, outcome{over, true}},
		{api.One + 1, api.One - 1, minusOne, outcome{same(0x3c9ffffffffffffe), false}},
		{1, half, 1, outcome{[5]uint64{2, 2, 1, 1, 2}, true}},
		{1, half, 2, outcome{[5]uint64{2, 3, 2, 2, 3}, true}},
		{1, half, neg | 1, outcome{[5]uint64{neg, neg, neg | 1, neg, neg | 1}, true}},
		{1, 1, 3, outcome{[5]uint64{3, 4, 3, 3, 3}, true}},
		{1, neg | 1, 3, outcome{[5]uint64{3, 3, 2, 2, 3}, true}},
		{1, neg | 1, smallest, outcome{[5]uint64{smallest, smallest, small, small, smallest}, true}},
		{1, 1, api.Most, outcome{[5]uint64{api.Most, api.Inf, api.Most, api.Most, api.Most}, true}},
		{1, neg | 1, api.Most, outcome{[5]uint64{api.Most, api.Most, api.Most - 1, api.Most - 1, api.Most}, true}},
		{half, step, api.Most, outcome{over, true}},
		{half - 1, step, api.Most, outcome{[5]uint64{api.Most, api.Inf, api.Most, api.Most, api.Most}, true}},
		{tie, api.One, api.One, outcome{[5]uint64{api.One, api.One + 1, api.One, api.One, api.One + 1}, true}},
		{tie, api.One + 1, api.One, outcome{[5]uint64{api.One + 1, api.One + 1, api.One, api.One, api.One + 1}, true}},
		{tie, api.One - 1, api.One, outcome{[5]uint64{api.One, api.One + 1, api.One, api.One, api.One}, true}},
		// The product or z is 0.
		{0, api.One, three, outcome{same(three), false}},
		{neg, api.Most, neg | 1, outcome{same(neg | 1), false}},
		{api.One, three, 0, outcome{same(three), false}},
		{api.One, neg | 1, 0, outcome{same(neg | 1), false}},
		{1, 1, 0, outcome{[5]uint64{0, 1, 0, 0, 0}, true}},
		{1, neg | 1, 0, outcome{[5]uint64{neg, neg, neg | 1, neg, neg}, true}},
		{1, neg | 1, neg, outcome{[5]uint64{neg, neg, neg | 1, neg, neg}, true}},
		// Both are 0.
		{0, api.One, 0, outcome{same(0), false}},
		{0, minusOne, neg, outcome{same(neg), false}},
		{neg, minusOne, 0, outcome{same(0), false}},
		{neg, neg, 0, outcome{same(0), false}},
		{0, neg, neg, outcome{same(neg), false}},
		{0, api.One, neg, outcome{byDirection, false}},
		{0, minusOne, 0, outcome{byDirection, false}},
		{neg, neg, neg, outcome{byDirection, false}},
		{0, neg, 0, outcome{byDirection, false}},
		// Only their sum is 0.
		{api.One, api.One, minusOne, outcome{byDirection, false}},
		{api.One, minusOne, api.One, outcome{byDirection, false}},
		{minusOne, minusOne, minusOne, outcome{byDirection, false}},
		{root, root, neg | 1, outcome{byDirection, false}},
		{half, neg | two, api.One, outcome{byDirection, false}},
		{api.Most, api.One, neg | api.Most, outcome{byDirection, false}},
	} {
		checkFma(t, c.x, c.y, c.z, c.outcome)
	}
}

func TestFmaOfInfinities(t *testing.T) {
	for _, c := range []fmaExample{
		{api.Inf, api.One, neg | api.Most, outcome{same(api.Inf), false}},
		{api.Inf, minusOne, api.Most, outcome{same(neg | api.Inf), false}},
		{neg | api.Inf, neg | 1, 0, outcome{same(api.Inf), false}},
		{api.Inf, api.Inf, api.Inf, outcome{same(api.Inf), false}},
		{api.Inf, api.One, neg | api.Inf, outcome{same(api.Nan), false}},
		{api.Inf, minusOne, api.Inf, outcome{same(api.Nan), false}},
		{api.Inf, minusOne, neg | api.Inf, outcome{same(neg | api.Inf), false}},
		{neg | api.Inf, neg | api.Inf, neg | api.Inf, outcome{same(api.Nan), false}},
		{api.Inf, 0, api.One, outcome{same(api.Nan), false}},
		{neg | api.Inf, neg, api.Inf, outcome{same(api.Nan), false}},
		{api.Inf, neg, neg | api.Inf, outcome{same(api.Nan), false}},
		{api.One, api.One, api.Inf, outcome{same(api.Inf), false}},
		{api.Most, api.Most, neg | api.Inf, outcome{same(neg | api.Inf), false}},
		{0, minusOne, api.Inf, outcome{same(api.Inf), false}},
		{neg, neg, neg | api.Inf, outcome{same(neg | api.Inf), false}},
	} {
		checkFma(t, c.x, c.y, c.z, c.outcome)
	}
}

// A CNan yields api.Nan at every place.
func TestFmaOfNan(t *testing.T) {
	for _, nan := range nans {
		for _, x := range samples() {
			for _, y := range list(0, neg, 1, minusOne, api.Most, neg|api.Inf, api.Inf, nan) {
				checkFma(t, nan, x, y, outcome{want: same(api.Nan)})
				checkFma(t, x, y, nan, outcome{want: same(api.Nan)})
			}
		}
	}
}

// Fma of all triples of some numbers.
func TestFmaSamples(t *testing.T) {
	l := list(0, neg, 1, neg|1, small, neg|smallest, root, tie, neg|half, api.One, minusOne, api.One+1, three, overTie, api.Most, neg|api.Most, api.Inf, neg|api.Inf, api.Nan)
	for _, x := range l {
		for _, y := range l {
			for _, z := range l {
				checkFma(t, x, y, z, expectFma(x, y, z))
			}
		}
	}
}

// fmaTriples calls check with factors of all sizes, and numbers that bear on the sum or hardly do so.
func fmaTriples(seed noise, rounds int, check func(x, y, z uint64)) {
	r := seed
	for range rounds {
		for _, ends := range [][2]int{{0, 4092}, {950, 1090}, {3060, 3075}} {
			x := r.number(0, 2046)
			low := int(x << 1 >> 53)
			y := r.number(ends[0]-low, ends[1]-low)
			p, _, _ := prod.Mul(x, y, api.MNear)
			exp := int(p << 1 >> 53)
			check(x, y, r.number(exp-110, exp+56))
			check(x, y, r.number(0, 2046))
			// What remains when the rounded product is subtracted, or a neighbour of it.
			for _, z := range list(float.Neg(p), float.Neg(p)+1, float.Neg(p)-1) {
				check(x, y, z)
			}
		}
	}
}

func TestFmaTriples(t *testing.T) {
	fmaTriples(0x9e3779b97f4a7c15, 600, func(x, y, z uint64) { checkFma(t, x, y, z, expectFma(x, y, z)) })
}

// MNear computes like the machine, except for the bits of a CNan.
func TestFmaMachine(t *testing.T) {
	fmaTriples(0x2545f4914f6cdd1d, 5000, func(x, y, z uint64) {
		f := math.FMA(math.Float64frombits(x), math.Float64frombits(y), math.Float64frombits(z))
		want := math.Float64bits(f)
		if math.IsNaN(f) {
			want = api.Nan
		}
		if r, _, e := prod.Fma(x, y, z, api.MNear); r != want || e != api.OK {
			t.Errorf("Fma(%#x, %#x, %#x) = %#x, %d, want %#x", x, y, z, r, e, want)
		}
	})
}

// Without z, Fma is Mul; with a factor of 1, it is the sum.
func TestFmaOfMul(t *testing.T) {
	for _, x := range samples() {
		for _, y := range samples() {
			for _, mode := range modes {
				p, lostP, _ := prod.Mul(x, y, mode)
				z := (x ^ y) & neg // the zero that leaves the sign of 0 as it is
				if r, lost, e := prod.Fma(x, y, z, mode); r != p || lost != lostP || e != api.OK {
					t.Errorf("Fma(%#x, %#x, %#x, %d) = %#x, %t, %d, but Mul %#x, %t", x, y, z, mode, r, lost, e, p, lostP)
				}
			}
		}
	}
}
