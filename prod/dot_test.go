package prod_test

import (
	"slices"
	"testing"

	"ulpwright/api"
	"ulpwright/float"
	"ulpwright/prod"
)

// checkDot compares Dot with what is expected in all modes, for the list and its reverse, which has the same
// pairs.
func checkDot(t *testing.T, l []uint64, o outcome) {
	t.Helper()
	back := slices.Clone(l)
	slices.Reverse(back)
	for _, mode := range modes {
		for _, l := range [][]uint64{l, back} {
			if x, lost, e := prod.Dot(l, mode); x != o.want[mode] || lost != o.lost || e != api.OK {
				t.Errorf("Dot(%#x, %d) = %#x, %t, %d, want %#x, %t", l, mode, x, lost, e, o.want[mode], o.lost)
			}
		}
	}
}

func TestDot(t *testing.T) {
	for _, c := range []struct {
		l []uint64
		outcome
	}{
		{list(two, three, api.One, api.One), outcome{same(0x401c000000000000), false}},
		{list(two, neg|three, api.One, api.One), outcome{same(neg | 0x4014000000000000), false}},
		{list(two, three, api.One, api.One, minusOne, three), outcome{same(0x4010000000000000), false}},
		{list(half, neg|two), outcome{same(minusOne), false}},
		// Neighbours of different pairs are not multiplied.
		{list(three, 0, three, 0), outcome{same(0), false}},
		{list(0, three, three, 0), outcome{same(0), false}},
		// A single rounding.
		{list(api.Most, two, api.Most, neg|two, api.One, api.One), outcome{same(api.One), false}},
		{list(api.Most, api.Most, api.Most, neg|api.Most, 1, neg|api.One), outcome{same(neg | 1), false}},
		{list(api.One+1, api.One+1, minusOne, api.One+2), outcome{same(0x3970000000000000), false}},
		{list(1, half, 1, half), outcome{same(1), false}},
		{list(1, 1, 3, api.One), outcome{[5]uint64{3, 4, 3, 3, 3}, true}},
		{list(1, neg|1, 3, api.One), outcome{[5]uint64{3, 3, 2, 2, 3}, true}},
		{list(1, half, 1, api.One), outcome{[5]uint64{2, 2, 1, 1, 2}, true}},
		{list(1, neg|half, 3, minusOne), outcome{[5]uint64{neg | 4, neg | 3, neg | 4, neg | 3, neg | 4}, true}},
		{list(tie, api.One, api.One, api.One), outcome{[5]uint64{api.One, api.One + 1, api.One, api.One, api.One + 1}, true}},
		{list(tie, api.One, api.One, api.One, 1, 1), outcome{[5]uint64{api.One + 1, api.One + 1, api.One, api.One, api.One + 1}, true}},
		{list(api.Most, two), outcome{[5]uint64{api.Inf, api.Inf, api.Most, api.Most, api.Inf}, true}},
		{times(100, api.Most, neg|api.Most), outcome{[5]uint64{neg | api.Inf, neg | api.Most, neg | api.Inf, neg | api.Most, neg | api.Inf}, true}},
		{times(100, root, root), outcome{same(100), false}},
		{times(100, 1, 1), outcome{[5]uint64{0, 1, 0, 0, 0}, true}},
		{times(100, neg|1, 1), outcome{[5]uint64{neg, neg, neg | 1, neg, neg}, true}},
		// Sums of 0 have no sign.
		{nil, outcome{same(0), false}},
		{list(), outcome{same(0), false}},
		{list(neg, api.One), outcome{same(0), false}},
		{list(neg, neg), outcome{same(0), false}},
		{list(0, neg), outcome{same(0), false}},
		{times(100, neg, api.One), outcome{same(0), false}},
		{list(api.One, api.One, minusOne, api.One), outcome{same(0), false}},
		{list(1, 1, neg|1, 1), outcome{same(0), false}},
		{times(50, api.Most, api.Most, neg|api.Most, api.Most), outcome{same(0), false}},
	} {
		checkDot(t, c.l, c.outcome)
		checkDot(t, c.l, expectDot(c.l))
	}
}

// Lists of many lengths, in which most of what is added is subtracted again.
func TestDotLists(t *testing.T) {
	r := noise(0xda942042e4dd58b5)
	for _, n := range []int{1, 2, 3, 10, 49, 50} {
		for range 20 {
			for _, exps := range [][2]int{{0, 2046}, {0, 3}, {480, 520}, {1000, 1100}, {1520, 1540}, {2040, 2046}} {
				var l []uint64
				for range n {
					l = append(l, r.number(exps[0], exps[1]), r.number(exps[0], exps[1]))
				}
				checkDot(t, l, expectDot(l))
				for i := int(r.next() % uint64(n)); i < n; i++ {
					l = append(l, l[2*i+1], float.Neg(l[2*i]))
				}
				checkDot(t, l, expectDot(l))
			}
		}
	}
}

// Of two pairs of which the second one has a factor 1, Dot is Fma, except for the sign of 0.
func TestDotOfFma(t *testing.T) {
	fmaTriples(0xd1342543de82ef95, 400, func(x, y, z uint64) {
		if isNan(z) || isInf(z) {
			return
		}
		for _, mode := range modes {
			a, lostA, _ := prod.Fma(x, y, z, mode)
			b, lostB, e := prod.Dot(list(x, y, api.One, z), mode)
			if a != b && !(isZero(a) && b == 0) || lostA != lostB || e != api.OK {
				t.Errorf("%#x, %#x, %#x, %d: Fma %#x, %t, Dot %#x, %t, %d", x, y, z, mode, a, lostA, b, lostB, e)
			}
		}
	})
}

// checkError compares the result of Dot with an error, in all modes.
func checkError(t *testing.T, l []uint64, want api.Errno) {
	t.Helper()
	for _, mode := range modes {
		if x, lost, e := prod.Dot(l, mode); x != 0 || lost || e != want {
			t.Errorf("Dot of %d numbers by %d = %#x, %t, %d, want %d", len(l), mode, x, lost, e, want)
		}
	}
}

// The errors of Dot in their order: each list has all errors that follow the one that is returned, or none.
func TestDotErrors(t *testing.T) {
	for _, x := range append(samples(), nans...) {
		for _, n := range []int{1, 3, 199, 201, 203, 1001} {
			checkError(t, times(n, x), api.ErrForm)
		}
		for _, n := range []int{202, 204, 400, 1000} {
			checkError(t, times(n, x), api.ErrLarge)
		}
		if isNan(x) || isInf(x) {
			checkError(t, times(200, x), api.ErrNone)
		} else {
			checkDot(t, times(200, x), expectDot(times(200, x)))
		}
	}
}

// A CInf or a CNan is an error at every place, also beside zeros.
func TestDotOfInfinities(t *testing.T) {
	for _, x := range append(nans, api.Inf, neg|api.Inf) {
		for _, l := range [][]uint64{list(0, 0), list(1, 2, 3, 4), list(neg, api.Most, api.Inf, api.Nan), times(100, api.One, minusOne)} {
			for i := range l {
				l := slices.Clone(l)
				l[i] = x
				checkError(t, l, api.ErrNone)
			}
		}
	}
}

// P2: the list stays as it is, its spare capacity included and without bearing on the result, which does not
// depend on earlier calls.
func TestMemory(t *testing.T) {
	for _, l := range [][]uint64{list(), list(neg), list(api.One, tie), list(two, three, tie, tie), list(api.Most, neg, neg|api.Most, 1), list(1, api.Inf), times(100, api.Most, 1), times(202, 3)} {
		want, changed, wantE := prod.Dot(slices.Clone(l), api.MUp)
		for _, spare := range []uint64{0, api.One, api.Inf, api.Nan} {
			arg := append(slices.Clone(l), times(30, spare)...)
			before := slices.Clone(arg)
			if x, lost, e := prod.Dot(arg[:len(l)], api.MUp); x != want || lost != changed || e != wantE {
				t.Errorf("Dot(%#x) = %#x, %t, %d, and before %#x, %t, %d", l, x, lost, e, want, changed, wantE)
			}
			if !slices.Equal(arg, before) {
				t.Errorf("Dot changed %#x", l)
			}
		}
	}
}
