package round_test

import (
	"math"
	"math/big"
	"testing"

	"ulpwright/api"
	"ulpwright/dyad"
	"ulpwright/round"
)

const neg = api.Sign

// checkTo compares To with numbers, in all modes.
func checkTo(t *testing.T, d api.Dyad) {
	t.Helper()
	exp := min(d.Exp, -1074)
	want, lost := numbers(in(exp, d), exp)
	for _, mode := range modes {
		if x, l, e := round.To(d, mode); x != want[mode] || l != lost || e != api.OK {
			t.Errorf("To(%s, %d) = %#x, %t, %d, want %#x, %t", brief(d), mode, x, l, e, want[mode], lost)
		}
	}
}

// example is what a number is rounded to by MNear, MUp, MDown, MZero and MAway, and whether it changes.
type example struct {
	d    api.Dyad
	want [5]uint64
	lost bool
}

func TestTo(t *testing.T) {
	for _, c := range []example{
		// The example of the chapter.
		{of(false, -53, 1, 1<<21), [5]uint64{api.One, api.One + 1, api.One, api.One, api.One + 1}, true},
		{of(true, -53, 1, 1<<21), [5]uint64{neg | api.One, neg | api.One, neg | api.One + 1, neg | api.One, neg | api.One + 1}, true},
		// Ties beside an odd number.
		{of(false, -53, 3, 1<<21), [5]uint64{api.One + 2, api.One + 2, api.One + 1, api.One + 1, api.One + 2}, true},
		{of(true, -53, 3, 1<<21), [5]uint64{neg | api.One + 2, neg | api.One + 1, neg | api.One + 2, neg | api.One + 1, neg | api.One + 2}, true},
		// Less and more than a tie, by much less than a bit of the number.
		{of(false, -200, 1, 0, 0, 0, 0x80000, 0, 0x100), [5]uint64{api.One + 1, api.One + 1, api.One, api.One, api.One + 1}, true},
		{of(false, -200, 1<<32-1, 1<<32-1, 1<<32-1, 1<<32-1, 0x7ffff, 0, 0x100), [5]uint64{api.One, api.One + 1, api.One, api.One, api.One}, true},
		// Below 1, where the numbers are closer to each other.
		{of(false, -54, 1<<32-1, 1<<22-1), [5]uint64{api.One, api.One, api.One - 1, api.One - 1, api.One}, true},
		{of(false, -54, 1<<32-3, 1<<22-1), [5]uint64{api.One - 2, api.One - 1, api.One - 2, api.One - 2, api.One - 1}, true},
		// Numbers.
		{api.Dyad{}, [5]uint64{}, false},
		{api.Dyad{Mant: []uint32{}}, [5]uint64{}, false},
		{of(false, 0, 1), [5]uint64{api.One, api.One, api.One, api.One, api.One}, false},
		{of(true, -1074, 1), [5]uint64{neg | 1, neg | 1, neg | 1, neg | 1, neg | 1}, false},
		{of(false, -1074, 1<<32-1, 1<<20-1), [5]uint64{1<<52 - 1, 1<<52 - 1, 1<<52 - 1, 1<<52 - 1, 1<<52 - 1}, false},
		{of(false, -1022, 1), [5]uint64{1 << 52, 1 << 52, 1 << 52, 1 << 52, 1 << 52}, false},
		{of(false, 971, 1<<32-1, 1<<21-1), [5]uint64{api.Most, api.Most, api.Most, api.Most, api.Most}, false},
		// Beside 0, which has the sign of what is rounded.
		{of(false, -1075, 1), [5]uint64{0, 1, 0, 0, 1}, true},
		{of(true, -1075, 1), [5]uint64{neg, neg, neg | 1, neg, neg | 1}, true},
		{of(false, -1076, 1), [5]uint64{0, 1, 0, 0, 0}, true},
		{of(true, -1076, 1), [5]uint64{neg, neg, neg | 1, neg, neg}, true},
		{of(false, -1076, 3), [5]uint64{1, 1, 0, 0, 1}, true},
		{of(false, -1075, 3), [5]uint64{2, 2, 1, 1, 2}, true},
		{of(false, -10000, 1), [5]uint64{0, 1, 0, 0, 0}, true},
		{of(true, -10000, 1), [5]uint64{neg, neg, neg | 1, neg, neg}, true},
		// From the largest number with EXP 0 to the smallest one with EXP 1.
		{of(false, -1075, 1<<32-1, 1<<21-1), [5]uint64{1 << 52, 1 << 52, 1<<52 - 1, 1<<52 - 1, 1 << 52}, true},
		// Beside api.Most: api.Inf counts as 2^1024.
		{of(false, 970, 1<<32-1, 1<<22-1), [5]uint64{api.Inf, api.Inf, api.Most, api.Most, api.Inf}, true},
		{of(true, 970, 1<<32-1, 1<<22-1), [5]uint64{neg | api.Inf, neg | api.Most, neg | api.Inf, neg | api.Most, neg | api.Inf}, true},
		{of(false, 969, 1<<32-3, 1<<23-1), [5]uint64{api.Most, api.Inf, api.Most, api.Most, api.Most}, true},
		{of(false, 1024, 1), [5]uint64{api.Inf, api.Inf, api.Most, api.Most, api.Inf}, true},
		{of(true, 1024, 1), [5]uint64{neg | api.Inf, neg | api.Most, neg | api.Inf, neg | api.Most, neg | api.Inf}, true},
		{of(false, 10000, full(400)...), [5]uint64{api.Inf, api.Inf, api.Most, api.Most, api.Inf}, true},
		{of(true, 10000, 1), [5]uint64{neg | api.Inf, neg | api.Most, neg | api.Inf, neg | api.Most, neg | api.Inf}, true},
	} {
		for _, mode := range modes {
			if x, lost, e := round.To(c.d, mode); x != c.want[mode] || lost != c.lost || e != api.OK {
				t.Errorf("To(%s, %d) = %#x, %t, %d, want %#x", brief(c.d), mode, x, lost, e, c.want[mode])
			}
		}
		checkTo(t, c.d)
	}
}

func TestToSamples(t *testing.T) {
	for _, d := range samples() {
		checkTo(t, d)
	}
}

// A number, the middle to the next one, and what is a little less or more than these.
func TestToBesideNumbers(t *testing.T) {
	for _, r := range ranks() {
		for _, tiny := range []int{1, 2, 50, 64, 1000, 8000} {
			exp := -1075 - tiny
			middle := new(big.Int).Add(size(r, exp+1), size(r+1, exp+1)) // half as large in units of 2^(exp + 1)
			for _, v := range []*big.Int{size(r, exp), middle} {
				for _, add := range []int64{-1, 0, 1} {
					d := normal(new(big.Int).Add(v, big.NewInt(add)), exp)
					checkTo(t, d)
					checkTo(t, negated(d))
				}
			}
		}
	}
}

// Every number with a value is rounded to itself.
func TestToOfNumbers(t *testing.T) {
	x := noise(0x2545f4914f6cdd1d)
	for exp := range uint64(2047) {
		bits := x.next()<<63 | exp<<52 | x.next()>>12
		d, _ := dyad.Of(bits)
		for _, mode := range modes {
			if y, lost, e := round.To(d, mode); y != bits || lost || e != api.OK {
				t.Fatalf("To of the value of %#x by %d = %#x, %t, %d", bits, mode, y, lost, e)
			}
		}
	}
}

// MNear rounds like the machine.
func TestToAgainstMachine(t *testing.T) {
	x := noise(0xda942042e4dd58b5)
	for range 20000 {
		a := math.Float64frombits(x.next()<<63 | (600+x.next()%800)<<52 | x.next()>>12)
		b := math.Float64frombits(x.next()<<63 | (600+x.next()%800)<<52 | x.next()>>12)
		c, _ := dyad.Of(math.Float64bits(a))
		d, _ := dyad.Of(math.Float64bits(b))
		product, _ := dyad.Mul(c, d)
		if y, _, _ := round.To(product, api.MNear); y != math.Float64bits(a*b) {
			t.Errorf("%g * %g = %#x", a, b, y)
		}
		sum, _ := dyad.Add(c, d)
		if y, _, _ := round.To(sum, api.MNear); y != math.Float64bits(a+b) {
			t.Errorf("%g + %g = %#x", a, b, y)
		}
	}
}
