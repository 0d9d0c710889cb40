package exact_test

import (
	"math"
	"math/big"
	"math/bits"
	"testing"

	"ulpwright/api"
	"ulpwright/exact"
)

const (
	neg       = api.Sign
	minusOne  = neg | api.One
	half      = 0x3fe0000000000000
	two       = 0x4000000000000000
	three     = 0x4008000000000000
	tie       = 0x3ca0000000000000 // 2^-53, half of the distance from 1 to the next number
	small     = 1<<52 - 1          // the largest CSmall
	smallest  = 1 << 52            // the smallest CNormal
	twoTo53   = 0x4340000000000000
	overTie   = 0x7c90000000000000 // 2^970, half of the distance from api.Most to 2^1024
	threeTies = 0x7ca8000000000000 // 3 times 2^970
	step      = 0x7ca0000000000000 // 2^971, the distance from api.Most to the number before it
	top       = 0x7fe0000000000000 // 2^1023
)

var (
	nans     = []uint64{api.Nan, api.Inf + 1, api.Sign - 1, api.Nan | 7, neg | api.Nan, neg | api.Inf + 1, math.MaxUint64}
	nothings = append([]uint64{api.Inf, neg | api.Inf}, nans...) // numbers without a value
)

// result is what a call returns.
type result struct {
	s, r uint64
	e    api.Errno
}

// transform is one of the functions of P10.1, and its steps as the machine computes them.
type transform struct {
	name  string
	call  func(x, y uint64) (uint64, uint64, api.Errno)
	steps func(x, y float64) (float64, float64)
}

func transforms() []transform {
	return []transform{
		{"TwoSum", exact.TwoSum, func(x, y float64) (float64, float64) {
			s := x + y
			a := s - y
			b := s - a
			c, d := x-a, y-b
			return s, c + d
		}},
		{"FastSum", exact.FastSum, func(x, y float64) (float64, float64) {
			s := x + y
			a := s - x
			return s, y - a
		}},
		{"TwoProd", exact.TwoProd, func(x, y float64) (float64, float64) {
			p := x * y
			return p, math.FMA(x, y, -p)
		}},
	}
}

func value(x uint64) float64 { return math.Float64frombits(x) }

// number returns the bits of f, with the only CNan that sums and products yield.
func number(f float64) uint64 {
	if math.IsNaN(f) {
		return api.Nan
	}
	return math.Float64bits(f)
}

func hasValue(x uint64) bool { return x&^neg < api.Inf }

// expect is P10.1.
func (f transform) expect(x, y uint64) result {
	if !hasValue(x) || !hasValue(y) {
		return result{e: api.ErrNone}
	}
	s, r := f.steps(value(x), value(y))
	if !hasValue(number(s)) {
		return result{e: api.ErrLarge}
	}
	return result{s: number(s), r: number(r)}
}

// check compares the result of a call with what is expected.
func (f transform) check(t *testing.T, x, y uint64, want result) {
	t.Helper()
	if s, r, e := f.call(x, y); s != want.s || r != want.r || e != want.e {
		t.Errorf("%s(%#x, %#x) = %#x, %#x, %d, want %#x, %#x, %d", f.name, x, y, s, r, e, want.s, want.r, want.e)
	}
}

// expectSplit is P10.2, by the bits of x.
func expectSplit(x uint64, keep int) result {
	switch {
	case !hasValue(x):
		return result{e: api.ErrNone}
	case keep < 1 || keep > 52:
		return result{e: api.ErrArg}
	}
	all := 53
	if size := x &^ neg; size < smallest {
		all = bits.Len64(size)
	}
	h := x &^ (1<<max(all-keep, 0) - 1)
	return result{s: h, r: number(value(x) - value(h))}
}

func checkSplit(t *testing.T, x uint64, keep int, want result) {
	t.Helper()
	if h, l, e := exact.Split(x, keep); h != want.s || l != want.r || e != want.e {
		t.Errorf("Split(%#x, %d) = %#x, %#x, %d, want %#x, %#x, %d", x, keep, h, l, e, want.s, want.r, want.e)
	}
}

// precise returns the value of x, with more bits than any sum or product of two values can have.
func precise(x uint64) *big.Float { return new(big.Float).SetPrec(4400).SetFloat64(value(x)) }

func preciseSum(x, y uint64) *big.Float { return precise(x).Add(precise(x), precise(y)) }

// noise is a source of the same numbers in every run.
type noise uint64

func (x *noise) next() uint64 {
	*x ^= *x << 13
	*x ^= *x >> 7
	*x ^= *x << 17
	return uint64(*x)
}

// number returns one with a value and an EXP from low to high, or with the next one in this range if they are
// outside of it.
func (x *noise) number(low, high int) uint64 {
	low, high = max(min(low, 2046), 0), max(min(high, 2046), 0)
	frac := []uint64{0, 1, 1<<52 - 1, x.next() >> 12, x.next() >> 12, x.next() >> 12 &^ (1<<26 - 1)}[x.next()>>40%6]
	return x.next()<<63 | (uint64(low)+x.next()>>20%uint64(high-low+1))<<52 | frac
}

// samples returns numbers of every class and both signs.
func samples() []uint64 {
	var l []uint64
	for _, x := range []uint64{
		0, 1, 2, 3, 5, 7, small - 1, small, smallest, smallest + 1, 2<<52 - 1, 2 << 52, 0x1e60000000000000, 0x3c90000000000000, tie, tie + 1, half - 1, half, half + 1,
		api.One - 1, api.One, api.One + 1, api.One + 2, 0x3ff8000000000000, two, three, three + 1, twoTo53, twoTo53 + 1, 0x5ff0000000000000, overTie - 1, overTie,
		overTie + 1, step, threeTies, top - 1, top, api.Most - 1, api.Most, api.Inf, api.Inf + 1, api.Nan,
	} {
		l = append(l, x, neg|x)
	}
	return l
}
