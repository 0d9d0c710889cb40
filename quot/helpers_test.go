package quot_test

import (
	"math"
	"math/big"
	"sort"

	"ulpwright/api"
)

const (
	neg      = api.Sign
	minusOne = neg | api.One
	half     = 0x3fe0000000000000
	two      = 0x4000000000000000
	three    = 0x4008000000000000
	four     = 0x4010000000000000
	five     = 0x4014000000000000
	six      = 0x4018000000000000
	seven    = 0x401c000000000000
	small    = 1<<52 - 1          // the largest CSmall
	smallest = 1 << 52            // 2^-1022, the smallest CNormal
	root     = 0x1e60000000000000 // 2^-537, the square root of 1, the smallest number above 0
	step     = 0x7ca0000000000000 // 2^971, the distance from api.Most to the number before it
	top      = 0x7fe0000000000000 // 2^1023
	unit     = -1075              // every number, and every middle between two numbers, is a multiple of 2^unit
)

var (
	modes   = []int{api.MNear, api.MUp, api.MDown, api.MZero, api.MAway}
	unknown = []int{-1, 5, 6, 1 << 32, math.MinInt, math.MaxInt}
	nans    = []uint64{api.Nan, api.Inf + 1, api.Sign - 1, api.Nan | 7, neg | api.Nan, neg | api.Inf + 1, math.MaxUint64}
)

// same is a result that does not depend on the mode.
func same(x uint64) [5]uint64 { return [5]uint64{x, x, x, x, x} }

// outcome is a result for all modes, and whether it is changed by rounding.
type outcome struct {
	want [5]uint64
	lost bool
}

func list(l ...uint64) []uint64 { return l }

func isNan(x uint64) bool { return x&^neg > api.Inf }

func isInf(x uint64) bool { return x&^neg == api.Inf }

func isZero(x uint64) bool { return x&^neg == 0 }

// size returns the absolute value that P1.2 gives to x, in units of 2^unit. For api.Inf, this is 2^1024.
func size(x uint64) *big.Int {
	rank := x &^ neg
	mant, exp := int64(rank%smallest), -1074
	if rank >= smallest {
		mant += smallest
		exp = int(rank>>52) - 1075
	}
	return new(big.Int).Lsh(big.NewInt(mant), uint(exp-unit))
}

// rounded is P4.1 for a real number that is known by the comparison of its absolute value with those of others,
// given in units of 2^unit: it looks for the neighbours among all numbers.
func rounded(minus bool, compare func(v *big.Int) int) outcome {
	low := uint64(sort.Search(api.MaxRank-1, func(r int) bool { return compare(size(uint64(r+1))) < 0 }))
	middle := new(big.Int).Add(size(low), size(low+1))
	near := compare(middle.Rsh(middle, 1))
	// Whether the modes select the neighbour that is farther from 0.
	far := [5]bool{near > 0 || near == 0 && low%2 != 0, !minus, minus, false, near >= 0}
	o := outcome{lost: compare(size(low)) != 0}
	for mode := range far {
		o.want[mode] = low
		if o.lost && far[mode] {
			o.want[mode]++
		}
		if minus {
			o.want[mode] |= neg
		}
	}
	return o
}

// expectDiv is P7.1.
func expectDiv(x, y uint64) outcome {
	sign := (x ^ y) & neg
	switch {
	case isNan(x) || isNan(y) || isInf(x) && isInf(y) || isZero(x) && isZero(y):
		return outcome{want: same(api.Nan)}
	case isInf(x) || isZero(y):
		return outcome{want: same(sign | api.Inf)}
	case isZero(x) || isInf(y):
		return outcome{want: same(sign)}
	}
	a, b := size(x), size(y)
	a.Lsh(a, -unit)
	return rounded(sign != 0, func(v *big.Int) int { return a.Cmp(new(big.Int).Mul(v, b)) })
}

// expectSqrt is P7.2.
func expectSqrt(x uint64) outcome {
	switch {
	case isNan(x) || x > neg:
		return outcome{want: same(api.Nan)}
	case isZero(x) || isInf(x):
		return outcome{want: same(x)}
	}
	a := size(x)
	a.Lsh(a, -unit)
	return rounded(false, func(v *big.Int) int { return a.Cmp(new(big.Int).Mul(v, v)) })
}

// expectRem is P7.3.
func expectRem(x, y uint64) uint64 {
	switch {
	case isNan(x) || isNan(y) || isInf(x) || isZero(y):
		return api.Nan
	case isInf(y):
		return x
	}
	a, b := size(x), size(y)
	if x^y >= neg {
		a.Neg(a) // the quotient of a and b is that of x and y
	}
	// The nearest integer is the quotient plus 1/2, rounded down; but if this sum is an odd integer, the one
	// before it is as near.
	n, rest := new(big.Int).DivMod(new(big.Int).Add(new(big.Int).Lsh(a, 1), b), new(big.Int).Lsh(b, 1), new(big.Int))
	if rest.Sign() == 0 && n.Bit(0) == 1 {
		n.Sub(n, big.NewInt(1))
	}
	left := a.Sub(a, n.Mul(n, b))
	if left.Sign() == 0 {
		return x & neg
	}
	minus := (left.Sign() < 0) != (y >= neg) // as a and b are x and y, or both of them negated
	o := rounded(minus, left.Abs(left).Cmp)
	if o.lost {
		panic("a remainder is not exact")
	}
	return o.want[api.MNear]
}

// noise is a source of the same numbers in every run.
type noise uint64

func (x *noise) next() uint64 {
	*x ^= *x << 13
	*x ^= *x >> 7
	*x ^= *x << 17
	return uint64(*x)
}

// number returns one with a value and an EXP from low to high, or with the next one in this range if they are
// outside of it.
func (x *noise) number(low, high int) uint64 {
	low, high = max(min(low, 2046), 0), max(min(high, 2046), 0)
	frac := []uint64{0, 1, 1<<52 - 1, x.next() >> 12, x.next() >> 12, x.next() >> 12 &^ (1<<26 - 1)}[x.next()>>40%6]
	return x.next()<<63 | (uint64(low)+x.next()>>20%uint64(high-low+1))<<52 | frac
}

// whole returns the number with the value mant times 2^exp; mant must have at most 53 bits.
func whole(mant uint64, exp int) uint64 { return math.Float64bits(math.Ldexp(float64(mant), exp)) }

// samples returns numbers of every class and both signs.
func samples() []uint64 {
	var l []uint64
	for _, x := range []uint64{
		0, 1, 2, 3, 4, 5, 6, 7, small - 1, small, smallest, smallest + 1, 2<<52 - 1, 2 << 52, root - 1, root, root + 1, half - 1, half, half + 1,
		api.One - 2, api.One - 1, api.One, api.One + 1, api.One + 2, 0x3ff8000000000000, two - 1, two, two + 1, three - 1, three, three + 1, five, six,
		0x4340000000000000, 0x5ff0000000000000, step, top - 1, top, api.Most - 1, api.Most, api.Inf, api.Inf + 1, api.Nan,
	} {
		l = append(l, x, neg|x)
	}
	return l
}
