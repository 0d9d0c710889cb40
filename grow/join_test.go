package grow_test

import (
	"math/big"
	"slices"
	"testing"

	"ulpwright/api"
	"ulpwright/grow"
)

func TestJoin(t *testing.T) {
	for _, c := range []struct{ a, b, want []uint64 }{
		{nil, nil, nil}, {list(), nil, nil},
		{list(tiny, api.One), list(tiny, two), list(0x3ca0000000000000, three)},
		{list(tiny, api.One), list(neg|tiny, minusOne), nil},
		{list(twoTo53), list(three), list(minusOne, twoTo53+2)},
		{list(three), list(twoTo53), list(minusOne, twoTo53+2)},
		{list(1, api.One), list(2, api.Most), list(3, api.One, api.Most)},
		// a stays as it is, but b is added number by number.
		{list(api.One), nil, list(api.One)}, {nil, list(api.One), list(api.One)},
		{list(api.One, two), nil, list(api.One, two)}, {nil, list(api.One, two), list(three)},
		{powers(0, 1, 60), nil, powers(0, 1, 60)}, {nil, powers(0, 1, 60), list(minusOne, 0x43b0000000000000)},
		{powers(-1074, 35, 60), nil, powers(-1074, 35, 60)},
		// Next to 2^1024, an error is lost.
		{list(neg | threeTies), list(api.Most), list(api.Nan, api.Most-1)},
		{list(neg | threeTies), list(1, api.Most), list(1, api.Nan, api.Most-1)},
	} {
		if got, e := grow.Join(c.a, c.b); !slices.Equal(got, c.want) || e != api.OK {
			t.Errorf("Join(%#x, %#x) = %#x, %d, want %#x", c.a, c.b, got, e, c.want)
		}
		checkJoin(t, c.a, c.b)
	}
}

// With a number of 53 bits, each power of 2 makes a part more.
func TestJoinLimit(t *testing.T) {
	for _, n := range []int{57, 58, 59} {
		l := powers(54, 2, n)
		if got, e := grow.Join(l, list(every2)); len(got) != n+1 || !slices.Equal(got[:n], powers(0, 2, n)) || e != api.OK {
			t.Errorf("Join of %d numbers = %#x, %d", n, got, e)
		}
		checkJoin(t, l, list(every2))
	}
	longest := powers(54, 2, 60)
	for _, b := range [][]uint64{list(every2), list(every2, api.Most), list(every2, neg|longest[59])} {
		if got, e := grow.Join(longest, b); len(got) != 0 || e != api.ErrLarge {
			t.Errorf("Join(%#x, %#x) = %#x, %d", longest, b, got, e)
		}
		checkJoin(t, longest, b)
	}
}

func TestJoinErrors(t *testing.T) {
	none, form, large := list(neg|api.Inf), list(two, api.One), powers(0, 1, 61)
	for _, c := range []struct {
		a, b []uint64
		want api.Errno
	}{
		// That of Check for a comes before that for b.
		{none, nil, api.ErrNone}, {nil, none, api.ErrNone}, {none, form, api.ErrNone}, {none, large, api.ErrNone},
		{form, nil, api.ErrForm}, {nil, form, api.ErrForm}, {form, none, api.ErrForm}, {form, large, api.ErrForm},
		{large, nil, api.ErrLarge}, {nil, large, api.ErrLarge}, {large, none, api.ErrLarge}, {large, form, api.ErrLarge},
		{list(0), nil, api.ErrForm}, {nil, list(neg), api.ErrForm}, {list(api.Most), list(0, api.Most), api.ErrForm},
		// Of Add.
		{list(api.Most), list(api.Most), api.ErrLarge}, {list(neg | api.Most), list(1, neg|overTie), api.ErrLarge}, {list(api.One, api.Most), list(overTie, neg|top), api.ErrLarge},
		{list(neg | threeTies), list(neg|top, neg|top), api.ErrForm}, {list(top), list(api.One, top), api.ErrLarge},
	} {
		if got, e := grow.Join(c.a, c.b); e != c.want || e != api.OK && len(got) != 0 {
			t.Errorf("Join(%#x, %#x) = %#x, %d, want %d", c.a, c.b, got, e, c.want)
		}
		checkJoin(t, c.a, c.b)
	}
}

func TestJoinSamples(t *testing.T) {
	for _, a := range expansions() {
		for _, b := range expansions() {
			checkJoin(t, a, b)
		}
		for _, x := range samples() {
			checkJoin(t, a, list(x))
			checkJoin(t, list(x), a)
			checkJoin(t, list(1, x), a)
		}
	}
}

func TestJoinLists(t *testing.T) {
	r := noise(0xda942042e4dd58b5)
	for _, gap := range []int{0, 1, 2, 60} {
		for _, bits := range []int{1, 2, 20, 53} {
			for low := -1074; low < 900; low += 61 {
				a, b := r.expansion(low, 1+r.below(60), bits, gap), r.expansion(low+r.below(60)-30, 1+r.below(60), bits, gap)
				checkJoin(t, a, b)
				if got, e := grow.Join(a, b); e == api.OK {
					checkSum(t, got, new(big.Float).Add(total(a), total(b)))
				}
			}
		}
	}
}
