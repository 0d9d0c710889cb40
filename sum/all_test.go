package sum_test

import (
	"slices"
	"testing"

	"ulpwright/api"
	"ulpwright/float"
	"ulpwright/sum"
)

func times(n int, x uint64) []uint64 { return slices.Repeat([]uint64{x}, n) }

func list(l ...uint64) []uint64 { return l }

// checkAll compares All with expect, in all modes, for the list and its reverse.
func checkAll(t *testing.T, l []uint64) {
	t.Helper()
	back := slices.Clone(l)
	slices.Reverse(back)
	for _, mode := range modes {
		want, changed := expect(l, mode)
		for _, l := range [][]uint64{l, back} {
			if x, lost, e := sum.All(l, mode); x != want || lost != changed || e != api.OK {
				t.Errorf("All(%#x, %d) = %#x, %t, %d, want %#x, %t", l, mode, x, lost, e, want, changed)
			}
		}
	}
}

func TestAll(t *testing.T) {
	next := [5]uint64{api.One + 1, api.One + 1, api.One, api.One, api.One + 1}
	for _, c := range []struct {
		l    []uint64
		want [5]uint64
		lost bool
	}{
		{list(api.One, half), same(0x3ff8000000000000), false},
		{list(api.One, api.One, api.One), same(0x4008000000000000), false},
		// One rounding, not one after every number.
		{list(api.Most, api.One, neg|api.Most), same(api.One), false},
		{list(api.Most, api.Most, neg|api.Most), same(api.Most), false},
		{list(api.One, tie, tie), same(api.One + 1), false},
		{list(api.One, tie, 1), next, true},
		{list(api.One, tie, neg|1), [5]uint64{api.One, api.One + 1, api.One, api.One, api.One}, true},
		{list(api.Most, 1, neg|api.Most, neg|2), same(neg | 1), false},
		{list(api.Most, overTie, neg|1), [5]uint64{api.Most, api.Inf, api.Most, api.Most, api.Most}, true},
		{list(api.Most, overTie, neg|overTie), same(api.Most), false},
		{list(neg|api.Most, neg|api.Most, 1), [5]uint64{neg | api.Inf, neg | api.Most, neg | api.Inf, neg | api.Most, neg | api.Inf}, true},
		{times(128, tie), same(0x3d10000000000000), false},
		{append(times(128, tie), api.One), same(api.One + 64), false},
		{append(times(199, quarter), api.One), [5]uint64{api.One + 50, api.One + 50, api.One + 49, api.One + 49, api.One + 50}, true},
		// A single number.
		{list(api.One), same(api.One), false},
		{list(neg | 1), same(neg | 1), false},
		{list(api.Most), same(api.Most), false},
		// Sums of 0.
		{nil, same(0), false},
		{list(), same(0), false},
		{list(0), same(0), false},
		{list(neg), same(neg), false},
		{times(3, 0), same(0), false},
		{times(200, 0), same(0), false},
		{times(200, neg), same(neg), false},
		{list(0, neg, neg), byDirection, false},
		{list(neg, neg, 0), byDirection, false},
		{append(times(199, neg), 0), byDirection, false},
		{append(times(199, 0), neg), byDirection, false},
		{list(neg, api.One, minusOne, neg), byDirection, false},
		{list(0, 1, neg|1, 0), byDirection, false},
		{list(3, neg|1, neg|2), byDirection, false},
		{list(api.Most, 1, neg|1, neg|api.Most), byDirection, false},
		// Infinities.
		{list(api.Inf), same(api.Inf), false},
		{list(neg | api.Inf), same(neg | api.Inf), false},
		{times(200, neg|api.Inf), same(neg | api.Inf), false},
		{list(api.One, api.Inf, neg|api.Most, api.Inf), same(api.Inf), false},
		{list(api.Most, api.Most, neg|api.Inf), same(neg | api.Inf), false},
		{list(api.Inf, api.One, neg|api.Inf), same(api.Nan), false},
		{list(api.Inf, neg|api.Inf, neg|api.Inf), same(api.Nan), false},
		{append(times(199, api.Inf), neg|api.Inf), same(api.Nan), false},
	} {
		for _, mode := range modes {
			if x, lost, e := sum.All(c.l, mode); x != c.want[mode] || lost != c.lost || e != api.OK {
				t.Errorf("All(%#x, %d) = %#x, %t, %d, want %#x", c.l, mode, x, lost, e, c.want[mode])
			}
		}
		checkAll(t, c.l)
	}
}

// A CNan yields api.Nan at every place, also beside infinities of both signs.
func TestAllOfNan(t *testing.T) {
	for _, nan := range nans {
		checkAll(t, list(nan))
		for _, l := range [][]uint64{list(1, 2, 3), list(api.Inf, neg|api.Inf), list(neg|api.Inf, neg|api.Inf), list(0, neg), times(199, api.Most)} {
			for i := range len(l) + 1 {
				for _, mode := range modes {
					if x, lost, e := sum.All(slices.Insert(slices.Clone(l), i, nan), mode); x != api.Nan || lost || e != api.OK {
						t.Errorf("All of %#x, with %#x at %d, by %d = %#x, %t, %d", l, nan, i, mode, x, lost, e)
					}
				}
			}
		}
	}
}

func TestAllTriples(t *testing.T) {
	l := list(0, neg, 1, neg|1, small, smallest, tie, neg|quarter, api.One, minusOne, api.One+1, overTie, api.Most, neg|api.Most, api.Inf, neg|api.Inf, api.Nan)
	for _, x := range l {
		for _, y := range l {
			for _, z := range l {
				checkAll(t, list(x, y, z))
			}
		}
	}
}

// Lists of many lengths, in which most of what is added is subtracted again.
func TestAllLists(t *testing.T) {
	r := noise(0xda942042e4dd58b5)
	for _, n := range []int{1, 2, 3, 5, 10, 50, 99, 100} {
		for range 10 {
			for _, exps := range [][2]uint64{{0, 2046}, {0, 3}, {1000, 1100}, {1020, 1026}, {2040, 2046}} {
				var l []uint64
				for range n {
					l = append(l, r.number(exps[0], exps[1]))
				}
				checkAll(t, l)
				for _, x := range l[r.next()%uint64(n):] {
					l = append(l, float.Neg(x))
				}
				checkAll(t, l)
			}
		}
	}
}

// Add is All of two numbers.
func TestAllOfPairs(t *testing.T) {
	for _, x := range samples() {
		for _, y := range samples() {
			for _, mode := range modes {
				a, lostA, e := sum.Add(x, y, mode)
				b, lostB, f := sum.All(list(x, y), mode)
				if a != b || lostA != lostB || e != f {
					t.Errorf("%#x, %#x, %d: Add %#x, %t, %d, All %#x, %t, %d", x, y, mode, a, lostA, e, b, lostB, f)
				}
			}
		}
	}
}

func TestAllLimit(t *testing.T) {
	for _, x := range samples() {
		checkAll(t, times(200, x))
		for _, n := range []int{201, 202, 400, 5000} {
			for _, mode := range modes {
				if r, lost, e := sum.All(times(n, x), mode); r != 0 || lost || e != api.ErrLarge {
					t.Errorf("All of %d times %#x by %d = %#x, %t, %d", n, x, mode, r, lost, e)
				}
			}
		}
	}
}

// P2: the list stays as it is, its spare capacity included and without bearing on the result, which does not
// depend on earlier calls.
func TestMemory(t *testing.T) {
	for _, l := range [][]uint64{list(), list(neg), list(api.One, tie, 1), list(api.Most, neg, neg|api.Most), list(1, api.Inf, api.Nan), times(200, api.Most), times(201, 3)} {
		want, changed, wantE := sum.All(slices.Clone(l), api.MUp)
		for _, spare := range []uint64{0, api.One, api.Inf, api.Nan} {
			arg := append(slices.Clone(l), times(30, spare)...)
			before := slices.Clone(arg)
			if x, lost, e := sum.All(arg[:len(l)], api.MUp); x != want || lost != changed || e != wantE {
				t.Errorf("All(%#x) = %#x, %t, %d, and before %#x, %t, %d", l, x, lost, e, want, changed, wantE)
			}
			if !slices.Equal(arg, before) {
				t.Errorf("All changed %#x", l)
			}
		}
	}
}
