package round_test

import (
	"math/big"
	"testing"

	"ulpwright/api"
	"ulpwright/dyad"
	"ulpwright/round"
)

// next to nothing, in units of 2^-nothing: less than all numbers and distances of the tests.
const nothing = 25000

var directions = []int64{-1, 0, 1}

func direction(n int64) api.Dyad { return normal(big.NewInt(n), 0) }

// checkPart compares Part with numbers, in all modes and directions.
func checkPart(t *testing.T, d api.Dyad) {
	t.Helper()
	for _, more := range directions {
		v := in(-nothing, d)
		want, lost := numbers(v.Add(v, big.NewInt(more)), -nothing)
		for _, mode := range modes {
			if x, l, e := round.Part(d, direction(more), mode); x != want[mode] || l != lost || e != api.OK {
				t.Errorf("Part(%s, %d, %d) = %#x, %t, %d, want %#x, %t", brief(d), more, mode, x, l, e, want[mode], lost)
			}
		}
	}
}

func TestPart(t *testing.T) {
	one, minus := of(false, 0, 1), of(true, 0, 1)
	tie := of(false, -53, 1, 1<<21) // 1 + 2^-53
	for _, c := range []struct {
		d, more api.Dyad
		want    [5]uint64
		lost    bool
	}{
		{one, one, [5]uint64{api.One, api.One + 1, api.One, api.One, api.One}, true},
		{one, minus, [5]uint64{api.One, api.One, api.One - 1, api.One - 1, api.One}, true},
		{one, api.Dyad{}, [5]uint64{api.One, api.One, api.One, api.One, api.One}, false},
		{minus, one, [5]uint64{neg | api.One, neg | api.One - 1, neg | api.One, neg | api.One - 1, neg | api.One}, true},
		{minus, minus, [5]uint64{neg | api.One, neg | api.One, neg | api.One + 1, neg | api.One, neg | api.One}, true},
		// A tie is one no more.
		{tie, one, [5]uint64{api.One + 1, api.One + 1, api.One, api.One, api.One + 1}, true},
		{tie, minus, [5]uint64{api.One, api.One + 1, api.One, api.One, api.One}, true},
		{tie, api.Dyad{}, [5]uint64{api.One, api.One + 1, api.One, api.One, api.One + 1}, true},
		// A number below 0 is rounded to the zero with its sign.
		{api.Dyad{}, one, [5]uint64{0, 1, 0, 0, 0}, true},
		{api.Dyad{}, minus, [5]uint64{neg, neg, neg | 1, neg, neg}, true},
		{api.Dyad{}, api.Dyad{}, [5]uint64{}, false},
		{of(false, -1075, 1), one, [5]uint64{1, 1, 0, 0, 1}, true},
		{of(false, -1075, 1), minus, [5]uint64{0, 1, 0, 0, 0}, true},
		{of(true, -10000, 1), one, [5]uint64{neg, neg, neg | 1, neg, neg}, true},
		// From the number 2^-1022, where the distance of the numbers is the same on both sides.
		{of(false, -1022, 1), minus, [5]uint64{1 << 52, 1 << 52, 1<<52 - 1, 1<<52 - 1, 1 << 52}, true},
		// Beside api.Most.
		{of(false, 971, 1<<32-1, 1<<21-1), one, [5]uint64{api.Most, api.Inf, api.Most, api.Most, api.Most}, true},
		{of(false, 970, 1<<32-1, 1<<22-1), minus, [5]uint64{api.Most, api.Inf, api.Most, api.Most, api.Most}, true},
		{of(false, 970, 1<<32-1, 1<<22-1), one, [5]uint64{api.Inf, api.Inf, api.Most, api.Most, api.Inf}, true},
		{of(false, 1024, 1), minus, [5]uint64{api.Inf, api.Inf, api.Most, api.Most, api.Inf}, true},
		{of(false, 10000, full(390)...), one, [5]uint64{api.Inf, api.Inf, api.Most, api.Most, api.Inf}, true},
		{of(false, -10000, full(390)...), minus, [5]uint64{api.Inf, api.Inf, api.Most, api.Most, api.Inf}, true},
	} {
		for _, mode := range modes {
			if x, lost, e := round.Part(c.d, c.more, mode); x != c.want[mode] || lost != c.lost || e != api.OK {
				t.Errorf("Part(%s, %s, %d) = %#x, %t, %d, want %#x", brief(c.d), brief(c.more), mode, x, lost, e, c.want[mode])
			}
		}
		checkPart(t, c.d)
	}
}

func TestPartSamples(t *testing.T) {
	for _, d := range samples() {
		if len(d.Mant) <= 390 {
			checkPart(t, d)
		}
	}
}

// Beside numbers and middles, next to nothing changes the result; also if the mantissa is longer than that
// of a number.
func TestPartBesideNumbers(t *testing.T) {
	for _, r := range ranks() {
		middle := normal(new(big.Int).Add(size(r, -1074), size(r+1, -1074)), -1075)
		for _, d := range []api.Dyad{normal(size(r, -1074), -1074), middle} {
			checkPart(t, d)
			checkPart(t, negated(d))
		}
	}
	for _, exp := range []int{-10000, -5000, -2000} {
		for _, n := range []int{389, 390} {
			checkPart(t, of(false, exp, ends(1, 1<<31, n)...))
			checkPart(t, of(true, exp, full(n)...))
		}
	}
}

func TestPartErrors(t *testing.T) {
	one, large := of(false, 0, 1), of(false, 0, full(391)...)
	for _, c := range []struct {
		name    string
		d, more api.Dyad
		mode    int
		want    api.Errno
	}{
		{"more is 3", one, of(false, 0, 3), api.MNear, api.ErrArg},
		{"more is 2", one, of(false, 1, 1), api.MNear, api.ErrArg},
		{"more is 1/2", one, of(true, -1, 1), api.MNear, api.ErrArg},
		{"more is 2^32 + 1", one, of(false, 0, 1, 1), api.MNear, api.ErrArg},
		{"more is long", one, of(false, 0, full(400)...), api.MNear, api.ErrArg},
		{"mode 5", one, one, 5, api.ErrArg},
		{"mode -1", one, api.Dyad{}, -1, api.ErrArg},
		{"391 limbs", large, one, api.MNear, api.ErrLarge},
		{"391 limbs, more is 0", large, api.Dyad{}, api.MNear, api.ErrLarge},
		{"400 limbs", of(true, 0, full(400)...), of(true, 0, 1), api.MZero, api.ErrLarge},
		{"391 limbs and mode 5", large, one, 5, api.ErrArg},
		{"391 limbs and more is 3", large, of(false, 0, 3), api.MNear, api.ErrArg},
		{"d even", of(false, 0, 2), one, api.MNear, api.ErrForm},
		{"more even", one, of(false, 0, 2), api.MNear, api.ErrForm},
		{"more is -0", one, of(true, 0), api.MNear, api.ErrForm},
		{"more too long", one, of(false, 0, full(401)...), api.MNear, api.ErrLarge},
		{"more even and mode 5", one, of(false, 0, 2), 5, api.ErrForm},
		{"more even and 391 limbs", large, of(false, 0, 2), api.MNear, api.ErrForm},
		{"d even and more too long", of(false, 0, 2), of(false, 0, full(401)...), 5, api.ErrForm},
		{"d too long and more even", of(false, 0, full(401)...), of(false, 0, 2), 5, api.ErrLarge},
	} {
		if x, lost, e := round.Part(c.d, c.more, c.mode); x != 0 || lost || e != c.want {
			t.Errorf("%s: %#x, %t, %d, want %d", c.name, x, lost, e, c.want)
		}
	}
	for _, d := range invalid() {
		want := dyad.Check(d)
		for _, mode := range []int{api.MNear, 5} {
			if x, lost, e := round.Part(d, of(false, 0, 3), mode); x != 0 || lost || e != want {
				t.Errorf("d is %s: %#x, %t, %d, want %d", brief(d), x, lost, e, want)
			}
			if x, lost, e := round.Part(large, d, mode); x != 0 || lost || e != want {
				t.Errorf("more is %s: %#x, %t, %d, want %d", brief(d), x, lost, e, want)
			}
		}
	}
}
