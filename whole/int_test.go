package whole_test

import (
	"math"
	"math/big"
	"testing"

	"ulpwright/api"
	"ulpwright/whole"
)

// checkInt compares Int with what P9.2 makes of the results of Round.
func checkInt(t *testing.T, x uint64, o outcome) {
	t.Helper()
	for _, mode := range modes {
		want, lost, wantE := 0, false, api.ErrNone
		if f := math.Float64frombits(o.want[mode]); -1<<63 <= f && f < 1<<63 {
			n, _ := big.NewFloat(f).Int64()
			want, lost, wantE = int(n), o.lost, api.OK
		}
		if n, l, e := whole.Int(x, mode); n != want || l != lost || e != wantE {
			t.Errorf("Int(%#x, %d) = %d, %t, %d, want %d, %t, %d", x, mode, n, l, e, want, lost, wantE)
		}
	}
}

func TestInt(t *testing.T) {
	for _, c := range []struct {
		x    uint64
		want [5]int // by MNear, MUp, MDown, MZero and MAway
		lost bool
	}{
		{0, [5]int{}, false},
		{neg, [5]int{}, false},
		{api.One, [5]int{1, 1, 1, 1, 1}, false},
		{neg | three, [5]int{-3, -3, -3, -3, -3}, false},
		{half, [5]int{0, 1, 0, 0, 1}, true},
		{half - 1, [5]int{0, 1, 0, 0, 0}, true},
		{neg | half, [5]int{0, 0, -1, 0, -1}, true},
		{0x4004000000000000, [5]int{2, 3, 2, 2, 3}, true},
		{neg | 0x400c000000000000, [5]int{-4, -3, -4, -3, -4}, true}, // -3.5
		{1, [5]int{0, 1, 0, 0, 0}, true},
		{neg | small, [5]int{0, 0, -1, 0, 0}, true},
		{0x41efffffffffffff, [5]int{1 << 32, 1 << 32, 1<<32 - 1, 1<<32 - 1, 1 << 32}, true},
		{0x41f0000000000001, [5]int{1 << 32, 1<<32 + 1, 1 << 32, 1 << 32, 1 << 32}, true},
		{twoTo52 - 1, [5]int{1 << 52, 1 << 52, 1<<52 - 1, 1<<52 - 1, 1 << 52}, true},
		{twoTo53 + 1, [5]int{1<<53 + 2, 1<<53 + 2, 1<<53 + 2, 1<<53 + 2, 1<<53 + 2}, false},
		{neg | twoTo62, [5]int{-1 << 62, -1 << 62, -1 << 62, -1 << 62, -1 << 62}, false},
	} {
		for _, mode := range modes {
			if n, lost, e := whole.Int(c.x, mode); n != c.want[mode] || lost != c.lost || e != api.OK {
				t.Errorf("Int(%#x, %d) = %d, %t, %d, want %d, %t", c.x, mode, n, lost, e, c.want[mode], c.lost)
			}
		}
	}
}

// The least int is a number, but the greatest one is not: the greatest number below 2^63 is 1024 less.
func TestIntLimits(t *testing.T) {
	for _, mode := range modes {
		for _, c := range []struct {
			x    uint64
			want int
		}{{twoTo63 - 1, math.MaxInt - 1023}, {neg | twoTo63 - 1, math.MinInt + 1024}, {neg | twoTo63, math.MinInt}} {
			if n, lost, e := whole.Int(c.x, mode); n != c.want || lost || e != api.OK {
				t.Errorf("Int(%#x, %d) = %d, %t, %d, want %d", c.x, mode, n, lost, e, c.want)
			}
		}
		for _, x := range append([]uint64{
			twoTo63, twoTo63 + 1, neg | twoTo63 + 1, 0x43f0000000000000, neg | 0x43f0000000000000, 0x43f0000000000001, 0x4400000000000000,
			0x47f0000000000000, 0x5ff0000000000000, neg | 0x5ff0000000000001, api.Most, neg | api.Most, api.Inf, minusInf,
		}, nans...) {
			if n, lost, e := whole.Int(x, mode); n != 0 || lost || e != api.ErrNone {
				t.Errorf("Int(%#x, %d) = %d, %t, %d, want ErrNone", x, mode, n, lost, e)
			}
		}
	}
}

func TestIntSamples(t *testing.T) {
	for _, x := range append(samples(), nans...) {
		checkInt(t, x, expectRound(x))
	}
	r := noise(0xda942042e4dd58b5)
	for exp := uint64(1015); exp < 1100; exp++ {
		for range 200 {
			x := r.number(exp)
			checkInt(t, x, expectRound(x))
			checkInt(t, neg|x, expectRound(neg|x))
		}
	}
}

// An unknown mode is reported also where there is no int.
func TestIntModes(t *testing.T) {
	for _, x := range append(samples(), nans...) {
		checkModes(t, "Int", func(mode int) (int, bool, api.Errno) { return whole.Int(x, mode) })
	}
}

// checkFrom compares From with what is expected, in all modes.
func checkFrom(t *testing.T, n int, o outcome) {
	t.Helper()
	for _, mode := range modes {
		if x, lost, e := whole.From(n, mode); x != o.want[mode] || lost != o.lost || e != api.OK {
			t.Errorf("From(%d, %d) = %#x, %t, %d, want %#x, %t", n, mode, x, lost, e, o.want[mode], o.lost)
		}
	}
}

func TestFrom(t *testing.T) {
	for _, c := range []struct {
		n int
		outcome
	}{
		{0, same(0)},
		{1, same(api.One)},
		{-1, same(minusOne)},
		{3, same(three)},
		{-3, same(neg | three)},
		{1<<32 + 1, same(0x41f0000000100000)},
		{1<<53 - 1, same(twoTo53 - 1)},
		{1 << 53, same(twoTo53)},
		{1<<53 + 2, same(twoTo53 + 1)},
		{1 << 62, same(twoTo62)},
		{math.MinInt, same(neg | twoTo63)},
		{math.MaxInt - 1023, same(twoTo63 - 1)},
		{math.MinInt + 1024, same(neg | twoTo63 - 1)},
		// Ties.
		{1<<53 + 1, outcome{[5]uint64{twoTo53, twoTo53 + 1, twoTo53, twoTo53, twoTo53 + 1}, true}},
		{1<<53 + 3, outcome{[5]uint64{twoTo53 + 2, twoTo53 + 2, twoTo53 + 1, twoTo53 + 1, twoTo53 + 2}, true}},
		{-1<<53 - 1, outcome{[5]uint64{neg | twoTo53, neg | twoTo53, neg | twoTo53 + 1, neg | twoTo53, neg | twoTo53 + 1}, true}},
		{math.MaxInt - 511, outcome{[5]uint64{twoTo63, twoTo63, twoTo63 - 1, twoTo63 - 1, twoTo63}, true}},
		// The ends.
		{math.MaxInt, outcome{[5]uint64{twoTo63, twoTo63, twoTo63 - 1, twoTo63 - 1, twoTo63}, true}},
		{math.MaxInt - 512, outcome{[5]uint64{twoTo63 - 1, twoTo63, twoTo63 - 1, twoTo63 - 1, twoTo63 - 1}, true}},
		{math.MinInt + 1, outcome{[5]uint64{neg | twoTo63, neg | twoTo63 - 1, neg | twoTo63, neg | twoTo63 - 1, neg | twoTo63}, true}},
	} {
		checkFrom(t, c.n, c.outcome)
		checkFrom(t, c.n, expectFrom(c.n))
	}
}

func TestFromSamples(t *testing.T) {
	r := noise(0x9e3779b97f4a7c15)
	for range 30000 {
		n := r.integer()
		checkFrom(t, n, expectFrom(n))
	}
}

// Around powers of two, where the distance between numbers changes, up to both limits.
func TestFromPowers(t *testing.T) {
	for k := range 64 {
		for j := -3072; j <= 3072; j += 256 {
			for _, n := range []int{1<<k + j - 1, 1<<k + j, 1<<k + j + 1} { // beyond a limit, this is near the other one
				checkFrom(t, n, expectFrom(n))
				checkFrom(t, -n, expectFrom(-n))
			}
		}
	}
}

// MNear yields the machine's conversions.
func TestFromMachine(t *testing.T) {
	r := noise(0xda942042e4dd58b5)
	for range 50000 {
		n := r.integer()
		if x, _, e := whole.From(n, api.MNear); x != bits(float64(n)) || e != api.OK {
			t.Errorf("From(%d, MNear) = %#x, %d, want %#x", n, x, e, bits(float64(n)))
		}
	}
}

func TestFromModes(t *testing.T) {
	for _, n := range []int{0, 1, -1, 1<<53 + 1, math.MaxInt, math.MinInt} {
		checkModes(t, "From", func(mode int) (uint64, bool, api.Errno) { return whole.From(n, mode) })
	}
}

// What From returns is an integer, and Int returns it again, unless it is 2^63.
func TestThereAndBack(t *testing.T) {
	r := noise(0x2545f4914f6cdd1d)
	for range 20000 {
		n := r.integer()
		for _, mode := range modes {
			x, lost, _ := whole.From(n, mode)
			if !whole.Is(x) {
				t.Errorf("Is(%#x) = false", x)
			}
			if x == twoTo63 {
				continue
			}
			back, more, e := whole.Int(x, mode)
			if again, _, _ := whole.From(back, mode); (back != n) != lost || more || e != api.OK || again != x {
				t.Errorf("From(%d, %d) = %#x, Int of it = %d, %t, %d, From of this = %#x", n, mode, x, back, more, e, again)
			}
		}
	}
}

// P2: a result depends only on the arguments.
func TestCallsTwice(t *testing.T) {
	type results struct {
		r, f       uint64
		n          int
		lr, ln, lf bool
		er, en, ef api.Errno
		is         bool
	}
	call := func(x uint64, mode int) (c results) {
		c.r, c.lr, c.er = whole.Round(x, mode)
		c.n, c.ln, c.en = whole.Int(x, mode)
		c.f, c.lf, c.ef = whole.From(int(x), mode)
		c.is = whole.Is(x)
		return c
	}
	numbers := append(samples(), nans...)
	var first []results
	for _, x := range numbers {
		for mode := -1; mode <= 5; mode++ {
			first = append(first, call(x, mode))
		}
	}
	i := len(first)
	for j := range numbers {
		for mode := 5; mode >= -1; mode-- {
			i--
			if x := numbers[len(numbers)-1-j]; call(x, mode) != first[i] {
				t.Errorf("%#x, %d: another result for the second time", x, mode)
			}
		}
	}
}
