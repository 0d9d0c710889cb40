package whole_test

import (
	"math"
	"math/big"

	"ulpwright/api"
)

const (
	neg       = api.Sign
	minusOne  = neg | api.One
	minusInf  = neg | api.Inf
	quarter   = 0x3fd0000000000000
	half      = 0x3fe0000000000000
	two       = 0x4000000000000000
	three     = 0x4008000000000000
	four      = 0x4010000000000000
	twoTo52   = 0x4330000000000000
	twoTo53   = 0x4340000000000000
	twoTo62   = 0x43d0000000000000
	twoTo63   = 0x43e0000000000000
	small     = 1<<52 - 1 // the largest CSmall
	smallest  = 1 << 52   // the smallest CNormal
	firstInt  = 1022      // the least EXP of numbers that may be rounded to an integer other than 0 by MNear
	firstLong = 1075      // the least EXP of numbers that all are integers
)

var (
	modes   = []int{api.MNear, api.MUp, api.MDown, api.MZero, api.MAway}
	unknown = []int{-1, 5, 6, 7, 1 << 32, math.MinInt, math.MaxInt}
	nans    = []uint64{api.Nan, api.Inf + 1, api.Sign - 1, api.Nan | 7, neg | api.Nan, minusInf + 1, math.MaxUint64}
)

func bits(f float64) uint64 { return math.Float64bits(f) }

func isNan(x uint64) bool { return x&^neg > api.Inf }

// outcome is a result for all modes, and whether it differs from the value.
type outcome struct {
	want [5]uint64
	lost bool
}

// same is a result that does not depend on the mode and does not differ from the value.
func same(x uint64) outcome { return outcome{want: [5]uint64{x, x, x, x, x}} }

// expectRound is P9.1, by the machine's functions.
func expectRound(x uint64) outcome {
	if isNan(x) {
		return same(api.Nan)
	}
	f := math.Float64frombits(x)
	return outcome{
		want: [5]uint64{bits(math.RoundToEven(f)), bits(math.Ceil(f)), bits(math.Floor(f)), bits(math.Trunc(f)), bits(math.Round(f))},
		lost: math.Trunc(f) != f,
	}
}

// expectFrom is P9.2: what big.Float makes of n with 53 bits.
func expectFrom(n int) outcome {
	var o outcome
	for mode, by := range []big.RoundingMode{big.ToNearestEven, big.ToPositiveInf, big.ToNegativeInf, big.ToZero, big.ToNearestAway} {
		v := new(big.Float).SetPrec(53).SetMode(by).SetInt64(int64(n))
		f, _ := v.Float64()
		o.want[mode] = bits(f)
		o.lost = v.Acc() != big.Exact
	}
	return o
}

// noise is a source of the same numbers in every run.
type noise uint64

func (x *noise) next() uint64 {
	*x ^= *x << 13
	*x ^= *x >> 7
	*x ^= *x << 17
	return uint64(*x)
}

// number returns a positive one with the EXP exp, with many or few bits of 1 after the point.
func (x *noise) number(exp uint64) uint64 {
	frac := x.next() >> 12
	switch x.next() >> 40 % 3 {
	case 0:
		frac = 0
	case 1:
		frac &^= 1<<(x.next()>>20%53) - 1
	}
	return exp<<52 | frac
}

// integer returns an int with any number of bits, and few or many of them 1.
func (x *noise) integer() int {
	n := int(x.next())
	if x.next()>>30%2 == 0 {
		n &^= 1<<(x.next()>>20%64) - 1
	}
	return n >> (x.next() >> 20 % 64)
}

// samples returns numbers of every class and both signs: integers, middles between them, and those next to both.
func samples() []uint64 {
	sizes := []uint64{0, 1, 2, 3, small - 1, small, smallest, smallest + 1, quarter, 0x3fe8000000000000, api.Most - 1, api.Most, api.Inf, api.Inf + 1, api.Nan, neg - 1}
	for n := 0.5; n <= 20; n += 0.5 {
		sizes = append(sizes, bits(n)-1, bits(n), bits(n)+1)
	}
	for exp := uint64(1020); exp < 1090; exp++ {
		power := exp << 52
		sizes = append(sizes, power-2, power-1, power, power+1, power+2, power+3, power+5, power+7)
	}
	var l []uint64
	for _, x := range sizes {
		l = append(l, x, neg|x)
	}
	return l
}
