package exact_test

import (
	"testing"

	"ulpwright/api"
	"ulpwright/exact"
)

// checkAll compares all results of the examples with those that they name, and with those of the machine.
func checkAll(t *testing.T, f transform, examples [][4]uint64) {
	t.Helper()
	for _, c := range examples {
		f.check(t, c[0], c[1], result{s: c[2], r: c[3]})
		f.check(t, c[0], c[1], f.expect(c[0], c[1]))
	}
}

func TestTwoSum(t *testing.T) {
	f := transforms()[0]
	checkAll(t, f, [][4]uint64{ // x, y, s and the error
		{api.One, 0x3c90000000000000, api.One, 0x3c90000000000000}, // the example of the chapter
		{0x3c90000000000000, api.One, api.One, 0x3c90000000000000},
		{minusOne, neg | 0x3c90000000000000, minusOne, neg | 0x3c90000000000000},
		{twoTo53, three, twoTo53 + 2, minusOne},
		{three, twoTo53, twoTo53 + 2, minusOne},
		{api.Most, neg | api.One, api.Most, minusOne},
		{neg | 1, api.Most, api.Most, neg | 1},
		// Of two numbers as near, the even one.
		{api.One, tie, api.One, tie},
		{api.One + 1, tie, api.One + 2, neg | tie},
		{neg | tie, minusOne, minusOne, neg | tie},
		// Nothing is lost.
		{api.One, two, three, 0}, {api.One, minusOne + 1, neg | 0x3cb0000000000000, 0}, {1, 2, 3, 0}, {small, 1, smallest, 0}, {smallest, neg | 1, small, 0},
		{neg | small, neg | 1, neg | smallest, 0}, {api.Most, neg | api.Most, 0, 0}, {api.One, minusOne, 0, 0},
		// Zeros.
		{0, 0, 0, 0}, {0, neg, 0, 0}, {neg, 0, 0, 0}, {neg, neg, neg, 0}, {api.One, 0, api.One, 0}, {neg, minusOne, minusOne, 0},
	})
}

// If the sum still has a value, but the number that the first step takes from it is next to 2^1024, the steps
// yield infinities, and these cancel out to no number.
func TestTwoSumNearInfinity(t *testing.T) {
	f := transforms()[0]
	checkAll(t, f, [][4]uint64{
		{api.Most, neg | threeTies, api.Most - 1, api.Nan},
		{neg | api.Most, threeTies, neg | api.Most - 1, api.Nan},
		{neg | threeTies, api.Most, api.Most - 1, neg | overTie},
		{threeTies, neg | api.Most, neg | api.Most - 1, overTie},
		{api.Most, overTie - 1, api.Most, overTie - 1},
		{overTie - 1, api.Most, api.Most, overTie - 1},
		{api.Most, neg | overTie, api.Most - 1, overTie},
		{neg | overTie, api.Most, api.Most - 1, overTie},
	})
}

func TestFastSum(t *testing.T) {
	f := transforms()[1]
	checkAll(t, f, [][4]uint64{ // x, y, s and the error
		{api.One, 0x3c90000000000000, api.One, 0x3c90000000000000},
		{twoTo53, three, twoTo53 + 2, minusOne},
		{neg | twoTo53, neg | three, neg | twoTo53 + 2, api.One},
		{api.One, tie, api.One, tie},
		{api.One + 1, tie, api.One + 2, neg | tie},
		{api.Most, neg | threeTies, api.Most - 1, neg | overTie},
		{api.Most, overTie - 1, api.Most, overTie - 1},
		// An x that is smaller, where the second result may be another one than the error.
		{0x3c90000000000000, api.One, api.One, 0},
		{neg | 1, api.Most, api.Most, 0},
		{api.One, twoTo53 + 1, twoTo53 + 2, neg | two}, // the error is -1
		{0x4014000000000000, twoTo53 + 1, twoTo53 + 4, neg | two},
		{neg | threeTies, api.Most, api.Most - 1, neg | api.Inf},
		{threeTies, neg | api.Most, neg | api.Most - 1, api.Inf},
		// Nothing is lost.
		{api.One, two, three, 0}, {two, api.One, three, 0}, {1, 2, 3, 0}, {api.Most, neg | api.Most, 0, 0},
		// Zeros.
		{0, 0, 0, 0}, {0, neg, 0, neg}, {neg, 0, 0, 0}, {neg, neg, neg, neg}, {api.One, 0, api.One, 0}, {api.One, neg, api.One, neg}, {neg, minusOne, minusOne, 0},
	})
}

func TestTwoProd(t *testing.T) {
	f := transforms()[2]
	checkAll(t, f, [][4]uint64{ // x, y, p and the error
		{0x3fb999999999999a, 0x4024000000000000, api.One, 0x3c90000000000000}, // 0.1 times 10
		{api.One + 1, api.One + 1, api.One + 2, 0x3970000000000000},
		{neg | api.One + 1, api.One + 1, minusOne + 2, neg | 0x3970000000000000},
		{api.One - 1, api.One - 1, api.One - 2, 0x3950000000000000},
		{twoTo53 + 1, three, 0x4358000000000002, neg | two}, // a tie: 3 times 2^53 plus 6
		{neg | three, twoTo53 + 1, neg | 0x4358000000000002, two},
		{api.Most, api.One, api.Most, 0}, {top, half, top - smallest, 0}, {three, minusOne, neg | three, 0},
		// An error that is no number is rounded, so that half of the smallest number is lost and leaves a zero.
		{1, half, 0, 0}, {neg | 1, half, neg, neg}, {3, half, 2, neg}, {neg | 3, half, neg | 2, 0}, {5, half, 2, 0}, {1, 1, 0, 0}, {1, neg | 1, neg, neg},
		{7, half, 4, neg}, {1, half + 1, 1, neg}, {smallest + 1, half, small - 1<<51 + 1, 0},
		// Zeros.
		{0, 0, 0, 0}, {neg, 0, neg, 0}, {0, neg | three, neg, 0}, {neg, neg, 0, 0}, {neg, api.Most, neg, 0},
	})
}

// An argument without a value is reported before a result without one.
func TestErrors(t *testing.T) {
	for _, f := range transforms() {
		for _, x := range append(samples(), nans...) {
			for _, y := range nothings {
				f.check(t, x, y, result{e: api.ErrNone})
				f.check(t, y, x, result{e: api.ErrNone})
			}
		}
	}
	sums, products := transforms()[:2], transforms()[2]
	for _, f := range sums {
		for _, c := range [][2]uint64{{api.Most, api.Most}, {api.Most, overTie}, {api.Most, step}, {top, top}, {api.Most - 1, threeTies}} {
			for _, sign := range []uint64{0, neg} {
				f.check(t, sign|c[0], sign|c[1], result{e: api.ErrLarge})
				f.check(t, sign|c[1], sign|c[0], result{e: api.ErrLarge})
			}
		}
	}
	for _, c := range [][2]uint64{{api.Most, api.Most}, {api.Most, two}, {top, two}, {api.Most, api.One + 1}, {0x5ff0000000000000, 0x5ff0000000000000}} {
		for _, sign := range []uint64{0, neg} {
			products.check(t, sign|c[0], c[1], result{e: api.ErrLarge})
			products.check(t, c[1], sign|c[0], result{e: api.ErrLarge})
		}
	}
}

func TestSamples(t *testing.T) {
	for _, f := range transforms() {
		for _, x := range samples() {
			for _, y := range samples() {
				f.check(t, x, y, f.expect(x, y))
			}
		}
	}
}

// sumPairs calls check with numbers of all sizes, mostly so near to each other that both bear on the sum.
func sumPairs(seed noise, rounds int, check func(x, y uint64)) {
	r := seed
	for range rounds {
		for exp := range 2047 {
			x := r.number(exp, exp)
			check(x, r.number(exp-110, exp+110))
			check(x, r.number(exp-3, exp+3))
			check(r.number(0, 2046), x)
		}
	}
}

// prodPairs calls check with numbers of all sizes, and with those whose products are near the limits of numbers.
func prodPairs(seed noise, rounds int, check func(x, y uint64)) {
	r := seed
	for range rounds {
		for exp := range 2047 {
			x := r.number(exp, exp)
			check(x, r.number(0, 2046))
			check(r.number(1023-110-exp, 1023+110-exp), x)
			check(x, r.number(3069-2-exp, 3069+2-exp))
		}
	}
}

func TestPairs(t *testing.T) {
	l := transforms()
	for _, f := range l[:2] {
		sumPairs(0x9e3779b97f4a7c15, 2, func(x, y uint64) { f.check(t, x, y, f.expect(x, y)) })
	}
	prodPairs(0x9e3779b97f4a7c15, 2, func(x, y uint64) { l[2].check(t, x, y, l[2].expect(x, y)) })
}

// Both results of TwoSum together are the sum, exactly, unless it is next to 2^1024.
func TestTwoSumIsExact(t *testing.T) {
	sumPairs(0x2545f4914f6cdd1d, 1, func(x, y uint64) {
		s, r, e := exact.TwoSum(x, y)
		if e == api.OK && s&^neg < top && preciseSum(x, y).Cmp(preciseSum(s, r)) != 0 {
			t.Errorf("TwoSum(%#x, %#x) = %#x, %#x", x, y, s, r)
		}
	})
}

// So are those of FastSum, if x is the larger one.
func TestFastSumIsExact(t *testing.T) {
	sumPairs(0xd1342543de82ef95, 1, func(x, y uint64) {
		if x&^neg < y&^neg {
			x, y = y, x
		}
		s, r, e := exact.FastSum(x, y)
		if e == api.OK && preciseSum(x, y).Cmp(preciseSum(s, r)) != 0 {
			t.Errorf("FastSum(%#x, %#x) = %#x, %#x", x, y, s, r)
		}
	})
}

// Both results of TwoProd together are the product, if this is a multiple of the smallest number.
func TestTwoProdIsExact(t *testing.T) {
	prodPairs(0xda942042e4dd58b5, 1, func(x, y uint64) {
		product := precise(x).Mul(precise(x), precise(y))
		p, r, e := exact.TwoProd(x, y)
		if product.MantExp(nil)-int(product.MinPrec()) < -1074 {
			return
		}
		if e == api.OK && product.Cmp(preciseSum(p, r)) != 0 {
			t.Errorf("TwoProd(%#x, %#x) = %#x, %#x", x, y, p, r)
		}
	})
}

// P2: a result depends only on the arguments.
func TestCallsTwice(t *testing.T) {
	call := func(x, y uint64) (l [4]result) {
		for i, f := range transforms() {
			l[i].s, l[i].r, l[i].e = f.call(x, y)
		}
		l[3].s, l[3].r, l[3].e = exact.Split(x, int(y%64))
		return l
	}
	var first [][4]result
	for _, x := range samples() {
		for _, y := range samples() {
			first = append(first, call(x, y))
		}
	}
	l, i := samples(), len(first)
	for a := range l {
		for b := range l {
			i--
			if x, y := l[len(l)-1-a], l[len(l)-1-b]; call(x, y) != first[i] {
				t.Errorf("%#x, %#x: another result for the second time", x, y)
			}
		}
	}
}
