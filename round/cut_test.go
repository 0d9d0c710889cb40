package round_test

import (
	"math"
	"math/big"
	"testing"

	"ulpwright/api"
	"ulpwright/dyad"
	"ulpwright/round"
)

// multiples returns v times 2^exp rounded to multiples of 2^places by all modes, and whether it differs
// from the results. The exp is at most places.
func multiples(v *big.Int, exp, places int) ([5]api.Dyad, bool) {
	unit := new(big.Int).Lsh(big.NewInt(1), uint(places-exp))
	n, down := new(big.Int).QuoRem(new(big.Int).Abs(v), unit, new(big.Int))
	up := new(big.Int).Sub(unit, down)
	var l [5]api.Dyad
	for _, mode := range modes {
		r := new(big.Int).Set(n)
		if down.Sign() > 0 && pick(v.Sign() < 0, down.Cmp(up), n.Bit(0) == 0, mode) {
			r.Add(r, big.NewInt(1))
		}
		if v.Sign() < 0 {
			r.Neg(r)
		}
		l[mode] = normal(r, places)
	}
	return l, down.Sign() > 0
}

// checkCut compares Cut with multiples, in all modes.
func checkCut(t *testing.T, d api.Dyad, places int) {
	t.Helper()
	exp := min(d.Exp, places)
	l, changed := multiples(in(exp, d), exp, places)
	for _, mode := range modes {
		want, lost, wantE := l[mode], changed, api.OK
		if isLarge(want) {
			want, lost, wantE = api.Dyad{}, false, api.ErrLarge
		}
		if r, l, e := round.Cut(d, places, mode); !equal(r, want) || l != lost || e != wantE {
			t.Errorf("Cut(%s, %d, %d) = %s, %t, %d, want %s, %t, %d", brief(d), places, mode, brief(r), l, e, brief(want), lost, wantE)
		}
	}
}

func TestCut(t *testing.T) {
	num := func(n int64) api.Dyad { return normal(big.NewInt(n), 0) }
	for _, c := range []struct {
		d      api.Dyad
		places int
		want   [5]int64 // by MNear, MUp, MDown, MZero and MAway
		lost   bool
	}{
		{of(false, -1, 5), 0, [5]int64{2, 3, 2, 2, 3}, true},
		{of(false, -1, 7), 0, [5]int64{4, 4, 3, 3, 4}, true},
		{of(true, -1, 5), 0, [5]int64{-2, -2, -3, -2, -3}, true},
		{of(false, -1, 1), 0, [5]int64{0, 1, 0, 0, 1}, true},
		{of(true, -1, 1), 0, [5]int64{0, 0, -1, 0, -1}, true},
		{of(false, -2, 9), 0, [5]int64{2, 3, 2, 2, 2}, true},
		{of(true, -2, 11), 0, [5]int64{-3, -2, -3, -2, -3}, true},
		{of(false, -9, 1), 3, [5]int64{0, 8, 0, 0, 0}, true},
		{of(true, -9, 1), 20, [5]int64{0, 0, -1 << 20, 0, 0}, true},
		{of(false, 2, 1), 3, [5]int64{0, 8, 0, 0, 8}, true},
		{of(false, 2, 3), 3, [5]int64{16, 16, 8, 8, 16}, true},
		{of(false, 0, 1<<32-1), 32, [5]int64{1 << 32, 1 << 32, 0, 0, 1 << 32}, true},
		{of(false, 0, 1<<32-1, 1), 1, [5]int64{1 << 33, 1 << 33, 1<<33 - 2, 1<<33 - 2, 1 << 33}, true},
		{of(false, 2, 3), 0, [5]int64{12, 12, 12, 12, 12}, false},
		{of(true, 2, 3), 2, [5]int64{-12, -12, -12, -12, -12}, false},
		{of(true, 0, 7), -20000, [5]int64{-7, -7, -7, -7, -7}, false},
		{api.Dyad{}, 0, [5]int64{}, false},
		{api.Dyad{}, 20000, [5]int64{}, false},
		{api.Dyad{Mant: []uint32{}}, -20000, [5]int64{}, false},
	} {
		for _, mode := range modes {
			if r, lost, e := round.Cut(c.d, c.places, mode); !equal(r, num(c.want[mode])) || lost != c.lost || e != api.OK {
				t.Errorf("Cut(%s, %d, %d) = %s, %t, %d, want %d", brief(c.d), c.places, mode, brief(r), lost, e, c.want[mode])
			}
		}
		checkCut(t, c.d, c.places)
	}
}

// At all bits of mantissas, and beyond them.
func TestCutPlaces(t *testing.T) {
	for _, d := range []api.Dyad{
		of(false, -20, 1), of(false, -20, 3), of(false, 7, 0x55555555), of(false, -40, 0x80000001), of(false, -50, full(2)...),
		of(false, -50, ends(1, 1<<31, 3)...), of(false, -50, 0x55555555, 0x55555555, 0x55555555), of(false, 0, 1, 0x80000000, 1),
	} {
		for places := d.Exp - 2; places < d.Exp+100; places++ {
			checkCut(t, d, places)
			checkCut(t, negated(d), places)
		}
	}
}

func TestCutSamples(t *testing.T) {
	for _, d := range samples() {
		top := d.Exp + in(d.Exp, d).BitLen()
		for _, places := range []int{
			-20000, -10001, -10000, -1074, -1, 0, 1, 971, 9999, 10000, 10001, 20000,
			d.Exp - 1, d.Exp, d.Exp + 1, d.Exp + 2, top - 53, top - 1, top, top + 1,
		} {
			if -20000 <= places && places <= 20000 {
				checkCut(t, d, places)
			}
		}
	}
}

// Results up to the bounds of dyad.Check, and beyond them.
func TestCutLimits(t *testing.T) {
	one, half := of(false, 10000, 1), of(false, 9999, 1)
	for _, c := range []struct {
		d            api.Dyad
		places, mode int
		want         api.Dyad
		e            api.Errno
	}{
		{half, 10000, api.MUp, one, api.OK},
		{half, 10000, api.MNear, api.Dyad{}, api.OK},
		{half, 10000, api.MAway, one, api.OK},
		{of(false, 9999, 3), 10000, api.MZero, one, api.OK},
		{of(false, 9999, 3), 10000, api.MNear, api.Dyad{}, api.ErrLarge}, // 2^10001
		{of(false, 9999, 5), 10000, api.MAway, of(false, 10000, 3), api.OK},
		{of(false, 9999, 5), 10000, api.MDown, api.Dyad{}, api.ErrLarge},
		{one, 10001, api.MUp, api.Dyad{}, api.ErrLarge},
		{one, 10001, api.MDown, api.Dyad{}, api.OK},
		{one, 10001, api.MNear, api.Dyad{}, api.OK},
		{one, 10001, api.MAway, api.Dyad{}, api.ErrLarge},
		{of(true, 0, 1), 20000, api.MDown, api.Dyad{}, api.ErrLarge},
		{of(true, 0, 1), 20000, api.MUp, api.Dyad{}, api.OK},
		{of(false, -10000, 1), 20000, api.MUp, api.Dyad{}, api.ErrLarge},
		{of(true, -10000, full(400)...), 20000, api.MAway, api.Dyad{}, api.OK},
		{of(true, -10000, 1), 10000, api.MDown, of(true, 10000, 1), api.OK},
		{of(false, 10000, full(400)...), 20000, api.MZero, api.Dyad{}, api.ErrLarge},
		{of(false, -10000, full(400)...), -9999, api.MUp, of(false, 2800, 1), api.OK},
		{of(false, -2801, full(400)...), -2800, api.MUp, of(false, 9999, 1), api.OK},
		{of(false, -2799, full(400)...), -2798, api.MUp, api.Dyad{}, api.ErrLarge},
	} {
		r, lost, e := round.Cut(c.d, c.places, c.mode)
		if !equal(r, c.want) || lost != (c.e == api.OK) || e != c.e {
			t.Errorf("Cut(%s, %d, %d) = %s, %t, %d, want %s, %d", brief(c.d), c.places, c.mode, brief(r), lost, e, brief(c.want), c.e)
		}
		checkCut(t, c.d, c.places)
		checkCut(t, negated(c.d), c.places)
	}
}

func TestCutErrors(t *testing.T) {
	for _, c := range []struct{ places, mode int }{
		{0, 5}, {0, -1}, {0, math.MaxInt}, {0, math.MinInt}, {20001, api.MNear}, {-20001, api.MNear}, {20001, 5},
		{math.MaxInt, api.MNear}, {math.MinInt, api.MUp}, {10001, 5},
	} {
		for _, d := range []api.Dyad{{}, of(false, 0, 1), of(true, -1, 1), of(false, 10000, full(400)...)} {
			if r, lost, e := round.Cut(d, c.places, c.mode); !equal(r, api.Dyad{}) || lost || e != api.ErrArg {
				t.Errorf("Cut(%s, %d, %d) = %s, %t, %d", brief(d), c.places, c.mode, brief(r), lost, e)
			}
		}
		for _, d := range invalid() {
			if r, lost, e := round.Cut(d, c.places, c.mode); !equal(r, api.Dyad{}) || lost || e != dyad.Check(d) {
				t.Errorf("Cut(%s, %d, %d) = %s, %t, %d", brief(d), c.places, c.mode, brief(r), lost, e)
			}
		}
	}
	for _, d := range invalid() {
		for _, mode := range modes {
			if r, lost, e := round.Cut(d, 0, mode); !equal(r, api.Dyad{}) || lost || e != dyad.Check(d) {
				t.Errorf("Cut(%s, 0, %d) = %s, %t, %d", brief(d), mode, brief(r), lost, e)
			}
		}
	}
}
