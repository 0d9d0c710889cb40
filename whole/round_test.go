package whole_test

import (
	"math"
	"testing"

	"ulpwright/api"
	"ulpwright/whole"
)

// checkRound compares Round with what is expected, in all modes.
func checkRound(t *testing.T, x uint64, o outcome) {
	t.Helper()
	for _, mode := range modes {
		if r, lost, e := whole.Round(x, mode); r != o.want[mode] || lost != o.lost || e != api.OK {
			t.Errorf("Round(%#x, %d) = %#x, %t, %d, want %#x, %t", x, mode, r, lost, e, o.want[mode], o.lost)
		}
	}
}

func TestRound(t *testing.T) {
	for _, c := range []struct {
		x uint64
		outcome
	}{
		{half, outcome{[5]uint64{0, api.One, 0, 0, api.One}, true}},
		{half - 1, outcome{[5]uint64{0, api.One, 0, 0, 0}, true}},
		{half + 1, outcome{[5]uint64{api.One, api.One, 0, 0, api.One}, true}},
		{quarter, outcome{[5]uint64{0, api.One, 0, 0, 0}, true}},
		{api.One - 1, outcome{[5]uint64{api.One, api.One, 0, 0, api.One}, true}},
		{api.One + 1, outcome{[5]uint64{api.One, two, api.One, api.One, api.One}, true}},
		{0x3ff8000000000000, outcome{[5]uint64{two, two, api.One, api.One, two}, true}},              // 1.5
		{0x4004000000000000, outcome{[5]uint64{two, three, two, two, three}, true}},                  // 2.5
		{0x4003ffffffffffff, outcome{[5]uint64{two, three, two, two, two}, true}},                    // just below
		{0x4004000000000001, outcome{[5]uint64{three, three, two, two, three}, true}},                // just above
		{0x400c000000000000, outcome{[5]uint64{four, four, three, three, four}, true}},               // 3.5
		{twoTo52 - 1, outcome{[5]uint64{twoTo52, twoTo52, twoTo52 - 2, twoTo52 - 2, twoTo52}, true}}, // 2^52 - 1/2
		{twoTo52 - 3, outcome{[5]uint64{twoTo52 - 4, twoTo52 - 2, twoTo52 - 4, twoTo52 - 4, twoTo52 - 2}, true}},
		{1, outcome{[5]uint64{0, api.One, 0, 0, 0}, true}},
		{small, outcome{[5]uint64{0, api.One, 0, 0, 0}, true}},
		{smallest, outcome{[5]uint64{0, api.One, 0, 0, 0}, true}},
		// Negative numbers keep their sign, also if they are rounded to 0.
		{neg | half, outcome{[5]uint64{neg, neg, minusOne, neg, minusOne}, true}},
		{neg | half - 1, outcome{[5]uint64{neg, neg, minusOne, neg, neg}, true}},
		{neg | half + 1, outcome{[5]uint64{minusOne, neg, minusOne, neg, minusOne}, true}},
		{neg | api.One - 1, outcome{[5]uint64{minusOne, neg, minusOne, neg, minusOne}, true}},
		{neg | 0x4004000000000000, outcome{[5]uint64{neg | two, neg | two, neg | three, neg | two, neg | three}, true}},
		{neg | 0x3ff8000000000000, outcome{[5]uint64{neg | two, minusOne, neg | two, minusOne, neg | two}, true}},
		{neg | 1, outcome{[5]uint64{neg, neg, minusOne, neg, neg}, true}},
		{neg | small, outcome{[5]uint64{neg, neg, minusOne, neg, neg}, true}},
	} {
		checkRound(t, c.x, c.outcome)
		checkRound(t, c.x, expectRound(c.x))
	}
}

// Integers stay as they are, and so do infinities and both zeros.
func TestRoundOfItself(t *testing.T) {
	for _, x := range []uint64{
		0, neg, api.One, minusOne, two, three, neg | three, twoTo52 - 2, twoTo52, twoTo52 + 1, neg | twoTo52 + 1, twoTo53 - 1, twoTo53, twoTo53 + 1,
		twoTo63, neg | twoTo63, twoTo63 + 1, 0x5ff0000000000001, api.Most - 1, api.Most, neg | api.Most, api.Inf, minusInf,
	} {
		checkRound(t, x, same(x))
	}
}

// Every CNan yields api.Nan, whatever its sign and FRAC are.
func TestRoundOfNan(t *testing.T) {
	for _, x := range nans {
		checkRound(t, x, same(api.Nan))
	}
}

func TestRoundSamples(t *testing.T) {
	for _, x := range samples() {
		checkRound(t, x, expectRound(x))
	}
}

// Numbers of all sizes, most of them with both an integer part and a fraction.
func TestRoundSizes(t *testing.T) {
	r := noise(0x9e3779b97f4a7c15)
	for exp := range uint64(2047) {
		count := 10
		if firstInt <= exp && exp <= firstLong {
			count = 300
		}
		for range count {
			x := r.number(exp)
			checkRound(t, x, expectRound(x))
			checkRound(t, neg|x, expectRound(neg|x))
		}
	}
}

// checkModes checks that an unknown mode is an error before all else, with zero results.
func checkModes[T uint64 | int](t *testing.T, name string, call func(mode int) (T, bool, api.Errno)) {
	t.Helper()
	for _, mode := range unknown {
		if r, lost, e := call(mode); r != 0 || lost || e != api.ErrArg {
			t.Errorf("%s, %d: %d, %t, %d, want ErrArg", name, mode, r, lost, e)
		}
	}
}

func TestRoundModes(t *testing.T) {
	for _, x := range samples() {
		checkModes(t, "Round", func(mode int) (uint64, bool, api.Errno) { return whole.Round(x, mode) })
	}
}

func TestIs(t *testing.T) {
	for _, c := range []struct {
		x    uint64
		want bool
	}{
		{0, true}, {neg, true}, {api.One, true}, {minusOne, true}, {three, true}, {neg | three, true},
		{twoTo52 - 2, true}, {twoTo52 + 1, true}, {twoTo53 + 1, true}, {neg | twoTo53 - 1, true}, {twoTo63, true}, {api.Most, true}, {neg | api.Most, true},
		{1, false}, {neg | 1, false}, {small, false}, {smallest, false}, {quarter, false}, {half, false}, {neg | half, false}, {api.One - 1, false}, {api.One + 1, false},
		{minusOne + 1, false}, {0x3ff8000000000000, false}, {0x4004000000000000, false}, {twoTo52 - 1, false}, {twoTo52 - 3, false}, {neg | twoTo52 - 1, false},
		// Without a value, nothing is an integer.
		{api.Inf, false}, {minusInf, false}, {api.Nan, false}, {api.Inf + 1, false}, {math.MaxUint64, false},
	} {
		if is := whole.Is(c.x); is != c.want {
			t.Errorf("Is(%#x) = %t", c.x, is)
		}
	}
}

// checkIs compares Is with the machine's functions.
func checkIs(t *testing.T, x uint64) {
	t.Helper()
	f := math.Float64frombits(x)
	if is := whole.Is(x); is != (math.Trunc(f) == f && !math.IsInf(f, 0)) {
		t.Errorf("Is(%#x) = %t", x, is)
	}
}

func TestIsSamples(t *testing.T) {
	for _, x := range append(samples(), nans...) {
		checkIs(t, x)
	}
	r := noise(0x2545f4914f6cdd1d)
	for exp := range uint64(2047) {
		for range 50 {
			x := r.number(exp)
			checkIs(t, x)
			checkIs(t, neg|x)
		}
	}
}
