package prod_test

import (
	"math"
	"math/big"
	"slices"
	"sort"

	"ulpwright/api"
)

const (
	neg      = api.Sign
	minusOne = neg | api.One
	half     = 0x3fe0000000000000
	two      = 0x4000000000000000
	three    = 0x4008000000000000
	tie      = 0x3ca0000000000000 // 2^-53, half of the distance from 1 to the next number
	small    = 1<<52 - 1          // the largest CSmall
	smallest = 1 << 52            // 2^-1022, the smallest CNormal
	root     = 0x1e60000000000000 // 2^-537, whose square is 1, the smallest number above 0
	step     = 0x7ca0000000000000 // 2^971, the distance from api.Most to the number before it
	overTie  = 0x7c90000000000000 // 2^970, half of the distance from api.Most to 2^1024
	unit     = -2148              // every product is a multiple of 2^unit
)

var (
	modes   = []int{api.MNear, api.MUp, api.MDown, api.MZero, api.MAway}
	unknown = []int{-1, 5, 6, 1 << 32, math.MinInt, math.MaxInt}
	nans    = []uint64{api.Nan, api.Inf + 1, api.Sign - 1, api.Nan | 7, neg | api.Nan, neg | api.Inf + 1, math.MaxUint64}
)

// same is a result that does not depend on the mode.
func same(x uint64) [5]uint64 { return [5]uint64{x, x, x, x, x} }

// byDirection is a zero whose sign depends on the mode.
var byDirection = [5]uint64{0, 0, neg, 0, 0}

// outcome is a result for all modes, and whether it is changed by rounding.
type outcome struct {
	want [5]uint64
	lost bool
}

func list(l ...uint64) []uint64 { return l }

func times(n int, x ...uint64) []uint64 { return slices.Repeat(x, n) }

func isNan(x uint64) bool { return x&^neg > api.Inf }

func isInf(x uint64) bool { return x&^neg == api.Inf }

func isZero(x uint64) bool { return x&^neg == 0 }

// size returns the value that P1.2 gives to the number with the Rank r, in units of 2^unit. For api.Inf, this
// is 2^1024.
func size(r uint64) *big.Int {
	mant, exp := int64(r%smallest), -1074
	if r >= smallest {
		mant += smallest
		exp = int(r>>52) - 1075
	}
	return new(big.Int).Lsh(big.NewInt(mant), uint(exp-unit))
}

// product returns the exact product of two values, in units of 2^unit.
func product(x, y uint64) *big.Int {
	p := new(big.Int).Mul(size(x&^neg), size(y&^neg))
	p.Rsh(p, -unit)
	if (x^y)&neg != 0 {
		p.Neg(p)
	}
	return p
}

// rounded is P4.1 for v, in units of 2^unit: it looks for the neighbours of v among all numbers.
func rounded(v *big.Int) outcome {
	a, minus := new(big.Int).Abs(v), v.Sign() < 0
	low := uint64(sort.Search(api.MaxRank-1, func(r int) bool { return size(uint64(r+1)).Cmp(a) > 0 }))
	down, up := new(big.Int).Sub(a, size(low)), new(big.Int).Sub(size(low+1), a)
	near := down.Cmp(up)
	// Whether the modes select the neighbour that is farther from 0.
	far := [5]bool{near > 0 || near == 0 && low%2 != 0, !minus, minus, false, near >= 0}
	o := outcome{lost: down.Sign() != 0}
	for mode := range far {
		o.want[mode] = low
		if o.lost && far[mode] {
			o.want[mode]++
		}
		if minus {
			o.want[mode] |= neg
		}
	}
	return o
}

// expectMul is P6.1.
func expectMul(x, y uint64) outcome {
	sign := (x ^ y) & neg
	switch {
	case isNan(x) || isNan(y) || isInf(x) && isZero(y) || isZero(x) && isInf(y):
		return outcome{want: same(api.Nan)}
	case isInf(x) || isInf(y):
		return outcome{want: same(sign | api.Inf)}
	case isZero(x) || isZero(y):
		return outcome{want: same(sign)}
	}
	return rounded(product(x, y))
}

// expectFma is P6.2, and P5.1 where it refers to this.
func expectFma(x, y, z uint64) outcome {
	sign := (x ^ y) & neg
	switch {
	case isNan(x) || isNan(y) || isNan(z) || isInf(x) && isZero(y) || isZero(x) && isInf(y):
		return outcome{want: same(api.Nan)}
	case isInf(x) || isInf(y):
		if isInf(z) && z != sign|api.Inf {
			return outcome{want: same(api.Nan)}
		}
		return outcome{want: same(sign | api.Inf)}
	case isInf(z):
		return outcome{want: same(z)}
	case (isZero(x) || isZero(y)) && z == sign:
		return outcome{want: same(z)}
	}
	total := product(x, y)
	if total.Add(total, product(z, api.One)).Sign() == 0 {
		return outcome{want: byDirection}
	}
	return rounded(total)
}

// expectDot is P6.3 for a list of pairs of values.
func expectDot(l []uint64) outcome {
	total := new(big.Int)
	for i := 0; i < len(l); i += 2 {
		total.Add(total, product(l[i], l[i+1]))
	}
	return rounded(total) // size(0) is 0, and 0 is not below 0
}

// noise is a source of the same numbers in every run.
type noise uint64

func (x *noise) next() uint64 {
	*x ^= *x << 13
	*x ^= *x >> 7
	*x ^= *x << 17
	return uint64(*x)
}

// number returns one with a value and an EXP from low to high, or with the next one in this range if they are
// outside of it.
func (x *noise) number(low, high int) uint64 {
	low, high = max(min(low, 2046), 0), max(min(high, 2046), 0)
	frac := []uint64{0, 1, 1<<52 - 1, x.next() >> 12, x.next() >> 12, x.next() >> 12 &^ (1<<26 - 1)}[x.next()>>40%6]
	return x.next()<<63 | (uint64(low)+x.next()>>20%uint64(high-low+1))<<52 | frac
}

// samples returns numbers of every class and both signs.
func samples() []uint64 {
	var l []uint64
	for _, x := range []uint64{
		0, 1, 2, 3, small - 1, small, smallest, smallest + 1, 2<<52 - 1, 2 << 52, root - 1, root, root + 1, tie, half - 1, half, half + 1, api.One - 1, api.One,
		api.One + 1, 0x3ff8000000000000, two, three, 0x4340000000000000, 0x5ff0000000000000, overTie, step, api.Most - 1, api.Most, api.Inf, api.Inf + 1, api.Nan,
	} {
		l = append(l, x, neg|x)
	}
	return l
}
