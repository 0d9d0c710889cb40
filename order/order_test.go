package order_test

import (
	"math"
	"testing"

	"ulpwright/api"
	"ulpwright/order"
)

// checkCmp compares Cmp with what is expected, in both directions.
func checkCmp(t *testing.T, x, y uint64, want int, ok bool) {
	t.Helper()
	if n, is := order.Cmp(x, y); n != want || is != ok {
		t.Errorf("Cmp(%#x, %#x) = %d, %t, want %d, %t", x, y, n, is, want, ok)
	}
	if n, is := order.Cmp(y, x); n != -want || is != ok {
		t.Errorf("Cmp(%#x, %#x) = %d, %t, want %d, %t", y, x, n, is, -want, ok)
	}
}

// checkTotal compares Total with what is expected, in both directions.
func checkTotal(t *testing.T, x, y uint64, want int) {
	t.Helper()
	if n := order.Total(x, y); n != want {
		t.Errorf("Total(%#x, %#x) = %d, want %d", x, y, n, want)
	}
	if n := order.Total(y, x); n != -want {
		t.Errorf("Total(%#x, %#x) = %d, want %d", y, x, n, -want)
	}
}

// checkEnds compares Min and Max with what is expected, in both directions.
func checkEnds(t *testing.T, x, y, low, high uint64) {
	t.Helper()
	for _, l := range [][]uint64{list(x, y), list(y, x)} {
		if r := order.Min(l[0], l[1]); r != low {
			t.Errorf("Min(%#x, %#x) = %#x, want %#x", l[0], l[1], r, low)
		}
		if r := order.Max(l[0], l[1]); r != high {
			t.Errorf("Max(%#x, %#x) = %#x, want %#x", l[0], l[1], r, high)
		}
	}
}

// For numbers without CNans that differ in more than the sign of 0, Cmp and Total agree.
func TestCompare(t *testing.T) {
	for _, c := range [][2]uint64{
		{0, 1}, {neg, 1}, {neg | 1, 0}, {neg | 1, neg}, {neg | 1, 1}, {1, 2}, {neg | 2, neg | 1}, {small, smallest}, {neg | smallest, neg | small},
		{minusOne, api.One}, {minusOne, 1}, {neg | 1, api.One}, {api.One, api.One + 1}, {minusOne + 1, minusOne}, {minusOne, 0}, {neg, api.One},
		{2<<52 - 1, 2 << 52}, {neg | 2<<52, neg | (2<<52 - 1)}, {smallest, api.One}, {minusOne, neg | smallest}, {1<<32 - 1, 1 << 32}, {1<<32 + 2, 2<<32 + 1},
		{api.One, api.Most}, {neg | api.Most, minusOne}, {neg | api.Most, api.Most}, {neg | api.Most, 1}, {neg | 1, api.Most},
		{api.Most, api.Inf}, {minusInf, neg | api.Most}, {minusInf, api.Inf}, {0, api.Inf}, {neg, api.Inf}, {minusInf, 0}, {minusInf, neg}, {minusInf, api.Most}, {neg | api.Most, api.Inf},
	} {
		checkCmp(t, c[0], c[1], -1, true)
		checkTotal(t, c[0], c[1], -1)
		checkEnds(t, c[0], c[1], c[0], c[1])
	}
}

func TestEqual(t *testing.T) {
	for _, x := range ascending() {
		checkTotal(t, x, x, 0)
		if !isNan(x) {
			checkCmp(t, x, x, 0, true)
			checkEnds(t, x, x, x, x)
		}
	}
}

// Both zeros have one Rank, but the one with its sign set has the smaller key.
func TestZeros(t *testing.T) {
	checkCmp(t, 0, neg, 0, true)
	checkTotal(t, 0, neg, 1)
	checkEnds(t, 0, neg, neg, 0)
}

// The keys tell CNans apart: they are beyond the infinity with the same sign.
func TestTotalOfNan(t *testing.T) {
	for _, c := range [][2]uint64{
		{api.Inf, api.Inf + 1}, {api.Inf + 1, api.Nan}, {api.Nan, api.Nan + 1}, {api.Nan, lastNan}, {api.Most, api.Nan}, {0, api.Nan}, {neg, api.Nan},
		{minusInf, api.Inf + 1}, {minusInf + 1, minusInf}, {neg | api.Nan, minusInf + 1}, {neg | api.Nan + 1, neg | api.Nan}, {math.MaxUint64, neg | api.Nan},
		{neg | api.Nan, neg | api.Most}, {neg | api.Nan, neg}, {neg | api.Nan, 0}, {neg | api.Nan, api.Inf}, {neg | api.Nan, api.Nan}, {math.MaxUint64, lastNan}, {minusInf + 1, api.Inf + 1},
	} {
		checkTotal(t, c[0], c[1], -1)
	}
}

// A CNan can't be compared by Cmp, even with itself, and yields api.Nan in Min and Max, whatever its sign and
// FRAC are.
func TestNan(t *testing.T) {
	for _, nan := range nans {
		for _, x := range append(ascending(), nans...) {
			checkCmp(t, nan, x, 0, false)
			checkEnds(t, nan, x, api.Nan, api.Nan)
		}
	}
}

func TestTotalAscending(t *testing.T) {
	l := ascending()
	for i, x := range l {
		for j, y := range l {
			checkTotal(t, x, y, compare(i < j, i > j))
		}
	}
}

// checkPair compares all functions of two numbers with the machine's comparisons, and with the order of places.
func checkPair(t *testing.T, x, y uint64) {
	t.Helper()
	checkTotal(t, x, y, compare(place(x) < place(y), place(x) > place(y)))
	if isNan(x) || isNan(y) {
		checkCmp(t, x, y, 0, false)
		checkEnds(t, x, y, api.Nan, api.Nan)
		return
	}
	a, b := math.Float64frombits(x), math.Float64frombits(y)
	checkCmp(t, x, y, compare(a < b, a > b), true)
	checkEnds(t, x, y, math.Float64bits(math.Min(a, b)), math.Float64bits(math.Max(a, b)))
}

func TestPairs(t *testing.T) {
	for _, x := range ascending() {
		for _, y := range ascending() {
			checkPair(t, x, y)
		}
	}
	pairs(func(x, y uint64) { checkPair(t, x, y) })
}
