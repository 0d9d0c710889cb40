package sum_test

import (
	"math"
	"math/big"

	"ulpwright/api"
)

const (
	neg      = api.Sign
	minusOne = neg | api.One
	half     = 0x3fe0000000000000
	tie      = 0x3ca0000000000000 // 2^-53, half of the distance from 1 to the next number
	quarter  = 0x3c90000000000000 // 2^-54, half of the distance from 1 to the number before it
	small    = 1<<52 - 1          // the largest CSmall
	smallest = 1 << 52            // the smallest CNormal
	step     = 0x7ca0000000000000 // 2^971, the distance from api.Most to the number before it
	overTie  = 0x7c90000000000000 // 2^970, half of the distance from api.Most to 2^1024
)

var (
	modes   = []int{api.MNear, api.MUp, api.MDown, api.MZero, api.MAway}
	unknown = []int{-1, 5, 6, 1 << 32, math.MinInt, math.MaxInt}
	nans    = []uint64{api.Nan, api.Inf + 1, api.Sign - 1, api.Nan | 7, neg | api.Nan, neg | api.Inf + 1, math.MaxUint64}
)

// rounding names the modes as package big does.
var rounding = [5]big.RoundingMode{big.ToNearestEven, big.ToPositiveInf, big.ToNegativeInf, big.ToZero, big.ToNearestAway}

// expect is P5.2 for a list of any numbers and a known mode.
func expect(l []uint64, mode int) (uint64, bool) {
	total := new(big.Float).SetPrec(4000) // more bits than a sum can have
	plus, minus, positive, negative := false, false, true, true
	for _, x := range l {
		f := math.Float64frombits(x)
		if math.IsNaN(f) {
			return api.Nan, false
		}
		positive, negative = positive && x == 0, negative && x == neg
		if math.IsInf(f, 0) {
			plus, minus = plus || f > 0, minus || f < 0
			continue
		}
		total.Add(total, big.NewFloat(f))
	}
	switch {
	case plus && minus:
		return api.Nan, false
	case plus:
		return api.Inf, false
	case minus:
		return neg | api.Inf, false
	case total.Sign() != 0:
		return nearby(total, mode)
	case positive || !negative && mode != api.MDown:
		return 0, false
	}
	return neg, false
}

// nearby is P4.1 for the exact sum of values, which is not 0. As it is a multiple of 2^-1074, the numbers
// with EXP 0 need no rounding other than to 53 bits.
func nearby(total *big.Float, mode int) (uint64, bool) {
	v := new(big.Float).SetPrec(53).SetMode(rounding[mode]).Set(total)
	lost := v.Cmp(total) != 0
	f, _ := v.Float64()
	if !math.IsInf(f, 0) {
		return math.Float64bits(f), lost
	}
	sign := math.Float64bits(f) & neg
	if mode == api.MZero || mode == api.MUp && f < 0 || mode == api.MDown && f > 0 {
		return sign | api.Most, true
	}
	return sign | api.Inf, true
}

// noise is a source of the same numbers in every run.
type noise uint64

func (x *noise) next() uint64 {
	*x ^= *x << 13
	*x ^= *x >> 7
	*x ^= *x << 17
	return uint64(*x)
}

// number returns one with a value and an EXP from low to high.
func (x *noise) number(low, high uint64) uint64 {
	frac := []uint64{0, 1, 1<<52 - 1, x.next() >> 12, x.next() >> 12}[x.next()>>40%5]
	return x.next()<<63 | (low+x.next()>>20%(high-low+1))<<52 | frac
}

// samples returns numbers of every class and both signs.
func samples() []uint64 {
	var l []uint64
	for _, x := range []uint64{
		0, 1, 2, 3, small - 1, small, smallest, smallest + 1, 2<<52 - 1, 2 << 52, quarter, tie, tie + 1, half, api.One - 1, api.One,
		api.One + 1, api.One + 2, 0x4340000000000000, 0x4008000000000000, overTie - 1, overTie, overTie + 1, step, api.Most - 1, api.Most, api.Inf, api.Inf + 1, api.Nan,
	} {
		l = append(l, x, neg|x)
	}
	return l
}
