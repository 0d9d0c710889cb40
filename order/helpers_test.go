package order_test

import (
	"math"

	"ulpwright/api"
)

const (
	neg      = api.Sign
	minusOne = neg | api.One
	minusInf = neg | api.Inf
	small    = 1<<52 - 1 // the largest CSmall
	smallest = 1 << 52   // the smallest CNormal
	lastNan  = 1<<63 - 1
)

var nans = []uint64{api.Nan, api.Inf + 1, lastNan, api.Nan | 7, neg | api.Nan, neg | api.Inf + 1, math.MaxUint64}

func list(l ...uint64) []uint64 { return l }

func isNan(x uint64) bool { return math.IsNaN(math.Float64frombits(x)) }

// place returns an integer for each number, in the order of the keys: the bits without the sign, counted from 0
// up, or from -1 down if the sign is set.
func place(x uint64) int64 {
	if x&neg != 0 {
		return -1 - int64(x&^neg)
	}
	return int64(x)
}

// compare returns -1, 0 or 1.
func compare(less, greater bool) int {
	switch {
	case less:
		return -1
	case greater:
		return 1
	}
	return 0
}

// ascending returns numbers of every class and both signs, in increasing order of their keys.
func ascending() []uint64 {
	sizes := []uint64{
		0, 1, 2, 3, 1<<32 - 1, 1 << 32, 1<<32 + 1, 1 << 51, small - 1, small, smallest, smallest + 1, 2<<52 - 1, 2 << 52, 0x3fe0000000000000,
		api.One - 1, api.One, api.One + 1, 0x4000000000000000, 0x4008000000000000, 0x4340000000000000, api.Most - 1, api.Most,
		api.Inf, api.Inf + 1, api.Nan - 1, api.Nan, api.Nan + 1, lastNan - 1, lastNan,
	}
	var l []uint64
	for i := range sizes {
		l = append(l, neg|sizes[len(sizes)-1-i])
	}
	return append(l, sizes...)
}

// noise is a source of the same numbers in every run.
type noise uint64

func (x *noise) next() uint64 {
	*x ^= *x << 13
	*x ^= *x >> 7
	*x ^= *x << 17
	return uint64(*x)
}

// pairs calls check with any two numbers, and with those that differ in few bits.
func pairs(check func(x, y uint64)) {
	r := noise(0x9e3779b97f4a7c15)
	for range 20000 {
		x := r.next()
		check(x, r.next())
		for i := range 64 {
			y := x ^ 1<<i
			check(x, y)
			check(x, y^1<<(r.next()%64))
		}
	}
}
