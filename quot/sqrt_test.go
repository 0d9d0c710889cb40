package quot_test

import (
	"math"
	"math/big"
	"testing"

	"ulpwright/api"
	"ulpwright/quot"
)

// checkSqrt compares Sqrt with what is expected in all modes.
func checkSqrt(t *testing.T, x uint64, o outcome) {
	t.Helper()
	for _, mode := range modes {
		if r, lost, e := quot.Sqrt(x, mode); r != o.want[mode] || lost != o.lost || e != api.OK {
			t.Errorf("Sqrt(%#x, %d) = %#x, %t, %d, want %#x, %t", x, mode, r, lost, e, o.want[mode], o.lost)
		}
	}
}

func TestSqrt(t *testing.T) {
	const root2, rootSmall = 0x3ff6a09e667f3bcc, 0x1e66a09e667f3bcc // what is at most the root of 2 and of 2^-1073
	// The root of api.Most: 2^512 less next to nothing, which is more than half of the distance to the number before.
	const rootMost = 0x5ff0000000000000 - 1
	for _, c := range []struct {
		x uint64
		outcome
	}{
		// Roots that are numbers.
		{api.One, outcome{same(api.One), false}},
		{four, outcome{same(two), false}},
		{0x4022000000000000, outcome{same(three), false}}, // 9
		{0x3fd0000000000000, outcome{same(half), false}},  // 1/4
		{0x4002000000000000, outcome{same(0x3ff8000000000000), false}},
		{1, outcome{same(root), false}},
		{4, outcome{same(root + smallest), false}},
		{9, outcome{same(0x1e78000000000000), false}},
		{smallest, outcome{same(0x2000000000000000), false}},
		{0x7fd0000000000000, outcome{same(0x5fe0000000000000), false}}, // 2^1022
		// Roots between numbers.
		{two, outcome{[5]uint64{root2 + 1, root2 + 1, root2, root2, root2 + 1}, true}},
		{2, outcome{[5]uint64{rootSmall + 1, rootSmall + 1, rootSmall, rootSmall, rootSmall + 1}, true}},
		{three, outcome{[5]uint64{0x3ffbb67ae8584caa, 0x3ffbb67ae8584cab, 0x3ffbb67ae8584caa, 0x3ffbb67ae8584caa, 0x3ffbb67ae8584caa}, true}},
		{api.One + 1, outcome{[5]uint64{api.One, api.One + 1, api.One, api.One, api.One}, true}},
		{api.One + 2, outcome{[5]uint64{api.One + 1, api.One + 1, api.One, api.One, api.One + 1}, true}},
		{api.One - 1, outcome{[5]uint64{api.One - 1, api.One, api.One - 1, api.One - 1, api.One - 1}, true}},
		{api.One - 2, outcome{[5]uint64{api.One - 1, api.One - 1, api.One - 2, api.One - 2, api.One - 1}, true}},
		{api.Most, outcome{[5]uint64{rootMost, rootMost + 1, rootMost, rootMost, rootMost}, true}},
	} {
		checkSqrt(t, c.x, c.outcome)
		checkSqrt(t, c.x, expectSqrt(c.x))
	}
}

// Both zeros are their own roots, and so is api.Inf.
func TestSqrtOfItself(t *testing.T) {
	for _, x := range list(0, neg, api.Inf) {
		checkSqrt(t, x, outcome{want: same(x)})
	}
}

// Negative numbers have no root, and neither has a CNan, whatever its sign and FRAC are.
func TestSqrtOfNone(t *testing.T) {
	for _, x := range append(nans, neg|1, neg|small, neg|smallest, minusOne, neg|four, neg|api.Most, neg|api.Inf) {
		checkSqrt(t, x, outcome{want: same(api.Nan)})
	}
}

func TestSqrtSamples(t *testing.T) {
	for _, x := range samples() {
		checkSqrt(t, x, expectSqrt(x))
	}
}

// Numbers of all sizes.
func TestSqrtSizes(t *testing.T) {
	r := noise(0x9e3779b97f4a7c15)
	for exp := range 2047 {
		for range 3 {
			x := r.number(exp, exp)
			checkSqrt(t, x, expectSqrt(x))
			checkSqrt(t, x&^neg, expectSqrt(x&^neg))
		}
	}
	for n := range 53 {
		x := r.next()>>12>>n | 1
		checkSqrt(t, x, expectSqrt(x))
	}
}

// Roots that are numbers, and those next to them.
func TestSqrtOfSquares(t *testing.T) {
	r := noise(0x2545f4914f6cdd1d)
	for exp := -537; exp < 486; exp++ {
		m := r.next()>>(38+r.next()>>30%26) | 1
		x := whole(m*m, 2*exp)
		checkSqrt(t, x, outcome{same(whole(m, exp)), false})
		checkSqrt(t, x-1, expectSqrt(x-1))
		checkSqrt(t, x+1, expectSqrt(x+1))
	}
}

// rootOf returns a number whose square is c, beside a multiple of 2^n; c must be 1, beside a multiple of 8.
func rootOf(c uint64, n int) uint64 {
	s := uint64(1)
	for i := 3; i < n; i++ {
		s |= (s*s - c) >> i & 1 << (i - 1)
	}
	return s
}

// Roots of X times 2^n, where this differs from the square of an M of 53 or 54 bits by little, so that the root
// almost is a number or a middle between numbers.
func TestSqrtByAHair(t *testing.T) {
	count := 0
	for width := 53; width <= 54; width++ {
		for n := width; n <= width+1; n++ {
			for j := -40; j <= 40; j++ {
				c := 1 + 8*j
				s := rootOf(uint64(c), n)
				for _, m := range list(s, -s, s+1<<(n-1), 1<<(n-1)-s) {
					m %= 1 << n
					square := new(big.Int).SetUint64(m)
					square.Mul(square, square).Sub(square, big.NewInt(int64(c)))
					x := square.Rsh(square, uint(n)).Uint64()
					if m>>(width-1) != 1 || x>>53 != 0 {
						continue
					}
					count++
					for _, exp := range []int{-1000, 0, 900} {
						a := whole(x, exp+n%2)
						checkSqrt(t, a, expectSqrt(a))
					}
				}
			}
		}
	}
	if count < 200 {
		t.Errorf("only %d cases", count)
	}
}

// MNear yields the machine's roots.
func TestSqrtMachine(t *testing.T) {
	r := noise(0xda942042e4dd58b5)
	for range 20000 {
		x := r.number(0, 2046) &^ neg
		want := math.Float64bits(math.Sqrt(math.Float64frombits(x)))
		if s, _, e := quot.Sqrt(x, api.MNear); s != want || e != api.OK {
			t.Errorf("Sqrt(%#x) = %#x, %d, want %#x", x, s, e, want)
		}
	}
}
