package quot_test

import (
	"math"
	"testing"

	"ulpwright/api"
	"ulpwright/quot"
)

// checkRem compares Rem with what is expected.
func checkRem(t *testing.T, x, y, want uint64) {
	t.Helper()
	if r := quot.Rem(x, y); r != want {
		t.Errorf("Rem(%#x, %#x) = %#x, want %#x", x, y, r, want)
	}
}

func TestRem(t *testing.T) {
	for _, c := range [][3]uint64{
		{two, three, minusOne}, // the example of the chapter
		{five, three, minusOne}, {seven, three, api.One}, {four, three, api.One}, {api.One, three, api.One},
		{neg | five, three, api.One}, {five, neg | three, minusOne}, {neg | five, neg | three, api.One},
		{neg | seven, three, minusOne}, {seven, neg | three, api.One}, {neg | seven, neg | three, minusOne},
		// In the middle between two multiples, of which the even one is subtracted.
		{api.One, two, api.One}, {three, two, minusOne}, {five, two, api.One}, {seven, two, minusOne},
		{minusOne, two, minusOne}, {neg | three, two, api.One}, {neg | five, two, minusOne}, {neg | seven, two, api.One},
		{api.One, neg | two, api.One}, {three, neg | two, minusOne}, {neg | three, neg | two, api.One}, {neg | five, neg | two, minusOne},
		{1, 2, 1}, {3, 2, neg | 1}, {5, 2, 1}, {neg | 3, 2, 1}, {top - smallest, top, top - smallest},
		// Near the middle.
		{three, two + 1, api.One - 4}, {three, two - 1, minusOne - 4}, {three - 1, two, api.One - 4}, {three + 1, two, minusOne - 4}, {api.One + 1, two, minusOne - 2},
		{api.One - 1, two, api.One - 1},
		// Multiples of y: a zero with the sign of x.
		{six, three, 0}, {six, neg | three, 0}, {neg | six, three, neg}, {neg | six, neg | three, neg},
		{api.Most, 1, 0}, {neg | api.Most, 1, neg}, {api.Most, api.Most, 0}, {neg | 1, 1, neg}, {neg | 1, neg | 1, neg}, {1, neg | 1, 0},
		// Zeros.
		{0, three, 0}, {neg, three, neg}, {0, neg | 1, 0}, {neg, neg | api.Most, neg},
		// Operands of quite different sizes.
		{1, api.Most, 1}, {neg | 1, api.Most, neg | 1}, {api.One, top, api.One}, {5, 3, neg | 1}, {api.Most, 3, neg | 1}, {top, 3, neg | 1},
		{api.Most, top, neg | step}, {api.Most, api.Most - 1, step}, {api.Most - 1, api.Most, neg | step}, {small, smallest, neg | 1}, {smallest, small, 1},
	} {
		checkRem(t, c[0], c[1], c[2])
		checkRem(t, c[0], c[1], expectRem(c[0], c[1]))
	}
}

func TestRemOfInfinities(t *testing.T) {
	for _, inf := range list(api.Inf, neg|api.Inf) {
		for _, x := range samples() {
			checkRem(t, inf, x, api.Nan)
			if !isNan(x) && !isInf(x) {
				checkRem(t, x, inf, x)
			}
		}
	}
}

// A zero as y yields api.Nan, and so does a CNan at either place, whatever its sign and FRAC are.
func TestRemOfNone(t *testing.T) {
	for _, x := range append(samples(), nans...) {
		checkRem(t, x, 0, api.Nan)
		checkRem(t, x, neg, api.Nan)
		for _, nan := range nans {
			checkRem(t, nan, x, api.Nan)
			checkRem(t, x, nan, api.Nan)
		}
	}
}

func TestRemSamples(t *testing.T) {
	for _, x := range samples() {
		for _, y := range samples() {
			checkRem(t, x, y, expectRem(x, y))
		}
	}
}

// remPairs calls check with operands of all sizes: any two, and those with small quotients.
func remPairs(seed noise, rounds int, check func(x, y uint64)) {
	r := seed
	for range rounds {
		for exp := range 2047 {
			x := r.number(exp, exp)
			check(x, r.number(0, 2046))
			check(x, r.number(exp-4, exp+2))
		}
	}
}

func TestRemPairs(t *testing.T) {
	remPairs(0x9e3779b97f4a7c15, 3, func(x, y uint64) { checkRem(t, x, y, expectRem(x, y)) })
}

// Multiples of y, odd multiples of its half, and their neighbours.
func TestRemOfMultiples(t *testing.T) {
	r := noise(0xd1342543de82ef95)
	for n := range 51 {
		y := r.next()>>(13+n) | 1
		half := r.next() >> (63 - n)
		for _, exp := range []int{-1074, -1060, -100, 0, 800} {
			a, b := whole(half*y, exp), whole(y, exp+1)
			for _, x := range list(a, a+1, max(a, 1)-1, neg|a, neg|a+1) {
				checkRem(t, x, b, expectRem(x, b))
			}
		}
	}
}

// Rem computes like package math, except for the bits of a CNan.
func TestRemMachine(t *testing.T) {
	remPairs(0x2545f4914f6cdd1d, 5, func(x, y uint64) {
		f := math.Remainder(math.Float64frombits(x), math.Float64frombits(y))
		want := math.Float64bits(f)
		if math.IsNaN(f) {
			want = api.Nan
		}
		checkRem(t, x, y, want)
	})
}
