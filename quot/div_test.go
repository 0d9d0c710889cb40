package quot_test

import (
	"math"
	"math/bits"
	"testing"

	"ulpwright/api"
	"ulpwright/quot"
)

// checkDiv compares Div with what is expected in all modes.
func checkDiv(t *testing.T, x, y uint64, o outcome) {
	t.Helper()
	for _, mode := range modes {
		if q, lost, e := quot.Div(x, y, mode); q != o.want[mode] || lost != o.lost || e != api.OK {
			t.Errorf("Div(%#x, %#x, %d) = %#x, %t, %d, want %#x, %t", x, y, mode, q, lost, e, o.want[mode], o.lost)
		}
	}
}

// divExample is the result of Div in all modes.
type divExample struct {
	x, y uint64
	outcome
}

func TestDiv(t *testing.T) {
	third, minusThird := uint64(0x3fd5555555555555), uint64(0xbfd5555555555555)
	for _, c := range []divExample{
		// Quotients that are numbers.
		{three, two, outcome{same(0x3ff8000000000000), false}},
		{neg | three, two, outcome{same(0xbff8000000000000), false}},
		{six, neg | three, outcome{same(neg | two), false}},
		{neg | six, neg | three, outcome{same(two), false}},
		{api.Most, api.Most, outcome{same(api.One), false}},
		{api.Most, neg | api.One, outcome{same(neg | api.Most), false}},
		{api.Most - 1, two, outcome{same(api.Most - 1 - smallest), false}},
		{6, two, outcome{same(3), false}},
		{smallest, two, outcome{same(1 << 51), false}},
		{small, half, outcome{same(2 * small), false}},
		{1, 1, outcome{same(api.One), false}},
		{1, root, outcome{same(root), false}},
		{1, top, outcome{[5]uint64{0, 1, 0, 0, 0}, true}},
		{top, two, outcome{same(top - smallest), false}},
		// Quotients between numbers.
		{api.One, three, outcome{[5]uint64{third, third + 1, third, third, third}, true}},
		{minusOne, three, outcome{[5]uint64{minusThird, minusThird, minusThird + 1, minusThird, minusThird}, true}},
		{api.One, neg | three, outcome{[5]uint64{minusThird, minusThird, minusThird + 1, minusThird, minusThird}, true}},
		{minusOne, neg | three, outcome{[5]uint64{third, third + 1, third, third, third}, true}},
		{two, three, outcome{[5]uint64{0x3fe5555555555555, 0x3fe5555555555556, 0x3fe5555555555555, 0x3fe5555555555555, 0x3fe5555555555555}, true}},
		{five, three, outcome{[5]uint64{0x3ffaaaaaaaaaaaab, 0x3ffaaaaaaaaaaaab, 0x3ffaaaaaaaaaaaaa, 0x3ffaaaaaaaaaaaaa, 0x3ffaaaaaaaaaaaab}, true}},
		{api.One, api.One + 1, outcome{[5]uint64{api.One - 2, api.One - 1, api.One - 2, api.One - 2, api.One - 2}, true}},
		{api.One, api.One - 1, outcome{[5]uint64{api.One + 1, api.One + 1, api.One, api.One, api.One + 1}, true}},
		{api.One + 1, api.One - 1, outcome{[5]uint64{api.One + 2, api.One + 2, api.One + 1, api.One + 1, api.One + 2}, true}},
	} {
		checkDiv(t, c.x, c.y, c.outcome)
		checkDiv(t, c.x, c.y, expectDiv(c.x, c.y))
	}
}

func TestDivAtTheEnds(t *testing.T) {
	over := [5]uint64{api.Inf, api.Inf, api.Most, api.Most, api.Inf}
	minusOver := [5]uint64{neg | api.Inf, neg | api.Most, neg | api.Inf, neg | api.Most, neg | api.Inf}
	below := [5]uint64{0, 1, 0, 0, 0}
	minusBelow := [5]uint64{neg, neg, neg | 1, neg, neg}
	for _, c := range []divExample{
		// Around the smallest numbers.
		{1, two, outcome{[5]uint64{0, 1, 0, 0, 1}, true}},
		{neg | 1, two, outcome{[5]uint64{neg, neg, neg | 1, neg, neg | 1}, true}},
		{1, neg | two, outcome{[5]uint64{neg, neg, neg | 1, neg, neg | 1}, true}},
		{1, two + 1, outcome{below, true}},
		{1, two - 1, outcome{[5]uint64{1, 1, 0, 0, 1}, true}},
		{3, two, outcome{[5]uint64{2, 2, 1, 1, 2}, true}},
		{3, two + 1, outcome{[5]uint64{1, 2, 1, 1, 1}, true}},
		{5, two, outcome{[5]uint64{2, 3, 2, 2, 3}, true}},
		{5, two - 1, outcome{[5]uint64{3, 3, 2, 2, 3}, true}},
		{neg | 5, two, outcome{[5]uint64{neg | 2, neg | 2, neg | 3, neg | 2, neg | 3}, true}},
		{9, six, outcome{[5]uint64{2, 2, 1, 1, 2}, true}},
		{1, api.Most, outcome{below, true}},
		{neg | 1, api.Most, outcome{minusBelow, true}},
		{smallest, neg | api.Most, outcome{minusBelow, true}},
		{2<<52 - 1, two, outcome{[5]uint64{smallest, smallest, small, small, smallest}, true}},
		{2<<52 - 3, two, outcome{[5]uint64{small - 1, small, small - 1, small - 1, small}, true}},
		{smallest, api.One + 1, outcome{[5]uint64{small, smallest, small, small, small}, true}},
		{small, api.One - 1, outcome{[5]uint64{small, smallest, small, small, small}, true}},
		{smallest, api.One - 1, outcome{[5]uint64{smallest + 1, smallest + 1, smallest, smallest, smallest + 1}, true}},
		// Beyond all values.
		{api.Most, half, outcome{over, true}},
		{api.Most, neg | half, outcome{minusOver, true}},
		{neg | api.Most, half, outcome{minusOver, true}},
		{api.Most, 1, outcome{over, true}},
		{neg | api.Most, neg | 1, outcome{over, true}},
		{api.Most, api.One - 1, outcome{over, true}}, // 2^1024
		{top, half, outcome{over, true}},
		{api.Most - 1, api.One - 1, outcome{[5]uint64{api.Most, api.Most, api.Most - 1, api.Most - 1, api.Most}, true}},
	} {
		checkDiv(t, c.x, c.y, c.outcome)
		checkDiv(t, c.x, c.y, expectDiv(c.x, c.y))
	}
}

func TestDivOfZerosAndInfinities(t *testing.T) {
	minusInf := neg | api.Inf
	for _, c := range [][3]uint64{
		{0, api.One, 0}, {0, minusOne, neg}, {neg, api.Most, neg}, {neg, neg | 1, 0},
		{api.One, 0, api.Inf}, {minusOne, 0, minusInf}, {1, neg, minusInf}, {neg | api.Most, neg, api.Inf},
		{api.Inf, api.One, api.Inf}, {api.Inf, neg | 1, minusInf}, {minusInf, api.Most, minusInf}, {minusInf, minusOne, api.Inf},
		{api.One, api.Inf, 0}, {minusOne, api.Inf, neg}, {api.Most, minusInf, neg}, {neg | 1, minusInf, 0},
		{0, api.Inf, 0}, {neg, api.Inf, neg}, {0, minusInf, neg}, {neg, minusInf, 0},
		{api.Inf, 0, api.Inf}, {api.Inf, neg, minusInf}, {minusInf, 0, minusInf}, {minusInf, neg, api.Inf},
		{0, 0, api.Nan}, {0, neg, api.Nan}, {neg, 0, api.Nan}, {neg, neg, api.Nan},
		{api.Inf, api.Inf, api.Nan}, {api.Inf, minusInf, api.Nan}, {minusInf, api.Inf, api.Nan}, {minusInf, minusInf, api.Nan},
	} {
		checkDiv(t, c[0], c[1], outcome{want: same(c[2])})
	}
}

// A CNan yields api.Nan, whatever its sign and FRAC are, beside all numbers.
func TestDivOfNan(t *testing.T) {
	for _, nan := range nans {
		for _, x := range append(samples(), nans...) {
			checkDiv(t, nan, x, outcome{want: same(api.Nan)})
			checkDiv(t, x, nan, outcome{want: same(api.Nan)})
		}
	}
}

func TestDivSamples(t *testing.T) {
	for _, x := range samples() {
		for _, y := range samples() {
			checkDiv(t, x, y, expectDiv(x, y))
		}
	}
}

// Operands of all sizes: with quotients of all sizes, around the smallest numbers and around the largest ones.
func TestDivPairs(t *testing.T) {
	r := noise(0x9e3779b97f4a7c15)
	for exp := range 2047 {
		x := r.number(exp, exp)
		for _, y := range list(r.number(0, 2046), r.number(exp+1020, exp+1078), r.number(exp-1026, exp-1020)) {
			checkDiv(t, x, y, expectDiv(x, y))
		}
	}
}

// Quotients below the smallest CNormal in the middle between two numbers.
func TestDivTies(t *testing.T) {
	r := noise(0xd1342543de82ef95)
	for n := range 52 {
		odd := r.next()>>(64-n)<<1 | 1 // twice the quotient, of at most n + 1 bits
		y := r.next()>>(12+n) | 1
		for _, exp := range []int{1, 2, 60, 900} {
			a, b := whole(odd*y, exp-1075), whole(y, exp)
			low := odd / 2
			want := [5]uint64{low + low%2, low + 1, low, low, low + 1}
			checkDiv(t, a, b, outcome{want, true})
			checkDiv(t, a, b, expectDiv(a, b))
		}
	}
}

// Quotients X / Y for which X times 2^n differs from M times Y by only 1, where M has n bits: with 53 of them,
// the quotient almost is a number, and with 54, a middle between numbers.
func TestDivByAHair(t *testing.T) {
	r := noise(0x2545f4914f6cdd1d)
	for range 1000 {
		y := 1<<52 | r.next()>>12 | 1
		inverse := y
		for range 6 {
			inverse *= 2 - y*inverse
		}
		for n := 53; n <= 54; n++ {
			for _, m := range list(inverse, -inverse) { // M times Y is 1 or -1, beside a multiple of 2^n
				m %= 1 << n
				if m>>(n-1) == 0 {
					continue // the other one has n bits
				}
				high, low := bits.Mul64(m, y)
				x := high<<(64-n) | low>>n
				if m == -inverse%(1<<n) {
					x++
				}
				a, b := whole(x, 20), whole(y, 20)
				checkDiv(t, a, b, expectDiv(a, b))
			}
		}
	}
}

// MNear divides like the machine.
func TestDivMachine(t *testing.T) {
	r := noise(0xda942042e4dd58b5)
	for range 20000 {
		x := r.number(0, 2046)
		exp := int(x << 1 >> 53)
		y := r.number(exp-1030, exp+1080)
		if isZero(x) && isZero(y) {
			continue
		}
		want := math.Float64bits(math.Float64frombits(x) / math.Float64frombits(y))
		if q, _, e := quot.Div(x, y, api.MNear); q != want || e != api.OK {
			t.Errorf("Div(%#x, %#x) = %#x, %d, want %#x", x, y, q, e, want)
		}
	}
}

// An unknown mode is an error before all else, with zero results.
func TestUnknownModes(t *testing.T) {
	for _, mode := range unknown {
		for _, x := range append(samples(), nans...) {
			if r, lost, e := quot.Sqrt(x, mode); r != 0 || lost || e != api.ErrArg {
				t.Errorf("Sqrt(%#x, %d) = %#x, %t, %d", x, mode, r, lost, e)
			}
			for _, y := range append(samples(), nans...) {
				if q, lost, e := quot.Div(x, y, mode); q != 0 || lost || e != api.ErrArg {
					t.Errorf("Div(%#x, %#x, %d) = %#x, %t, %d", x, y, mode, q, lost, e)
				}
			}
		}
	}
}
