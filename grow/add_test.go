package grow_test

import (
	"math/big"
	"slices"
	"testing"

	"ulpwright/api"
	"ulpwright/grow"
)

func TestAdd(t *testing.T) {
	for _, c := range []struct {
		l    []uint64
		x    uint64
		want []uint64
	}{
		{list(api.One), tiny, list(tiny, api.One)}, // the example of the chapter
		{list(tiny), api.One, list(tiny, api.One)},
		{list(tiny, api.One), minusOne, list(tiny)},
		{list(tiny, api.One), neg | tiny, list(api.One)},
		{list(tiny, api.One), tiny, list(0x3ca0000000000000, api.One)},
		{list(neg|1, tiny, api.One), tiny, list(neg|1, 0x3ca0000000000000, api.One)},
		{list(twoTo53), three, list(minusOne, twoTo53+2)},
		{list(twoTo53), neg | three, list(twoTo53 - 3)},
		{list(api.One, twoTo53+1), api.One, list(0x4340000000000002)},
		// Nothing is left.
		{nil, 0, nil}, {list(), neg, nil}, {list(api.One), minusOne, nil}, {list(neg | 1), 1, nil}, {list(api.Most), neg | api.Most, nil},
		{list(api.One, two), neg | three, nil},
		// A zero is added like any number: it makes one number of those that fit into it.
		{list(api.One), 0, list(api.One)}, {list(api.One, two), 0, list(three)}, {list(api.One, two, four), neg, list(0x401c000000000000)}, {list(tiny, api.One), neg, list(tiny, api.One)},
		{nil, api.One, list(api.One)}, {nil, neg | 1, list(neg | 1)}, {nil, api.Most, list(api.Most)},
		{list(api.Most), 1, list(1, api.Most)}, {list(1, minusOne, api.Most), 1, list(2, minusOne, api.Most)},
		{powers(0, 1, 60), api.One, list(0x43b0000000000000)},
		// Next to 2^1024, the steps of exact.TwoSum lose the error.
		{list(neg | threeTies), api.Most, list(api.Nan, api.Most-1)},
		{list(1, neg|threeTies), api.Most, list(1, api.Nan, api.Most-1)},
		{list(api.Most), neg | threeTies, list(neg|overTie, api.Most-1)},
	} {
		if got, e := grow.Add(c.l, c.x); !slices.Equal(got, c.want) || e != api.OK {
			t.Errorf("Add(%#x, %#x) = %#x, %d, want %#x", c.l, c.x, got, e, c.want)
		}
		checkAdd(t, c.l, c.x)
	}
}

// every2 is a number with every other bit set, the lowest one being 2^0. Of any power of 2 added to it that is
// four times as large as it, a bit is lost at the low end.
const every2 = 0x4335555555555555

// An expansion of MaxParts numbers may get longer.
func TestAddLongest(t *testing.T) {
	l := powers(54, 2, 60)
	got, e := grow.Add(l, every2)
	if len(got) != 61 || !slices.Equal(got[:60], powers(0, 2, 60)) || e != api.OK {
		t.Errorf("Add = %#x, %d", got, e)
	}
	checkAdd(t, l, every2)
	checkCheck(t, got, api.ErrLarge)
}

func TestAddErrors(t *testing.T) {
	for _, c := range []struct {
		l    []uint64
		x    uint64
		want api.Errno
	}{
		// That of Check comes first.
		{list(0), api.One, api.ErrForm}, {list(0), api.Inf, api.ErrForm}, {list(two, api.One), api.Nan, api.ErrForm}, {list(api.Inf), api.One, api.ErrNone},
		{powers(0, 1, 61), api.One, api.ErrLarge}, {powers(0, 1, 61), neg | api.Nan, api.ErrLarge}, {list(neg, api.Nan), api.Most, api.ErrNone}, {list(neg, api.Most), api.Most, api.ErrForm},
		{nil, api.Inf, api.ErrNone}, {list(api.Most), neg | api.Inf, api.ErrNone}, {list(api.One), api.Nan, api.ErrNone},
		// Sums that are too large, the first one or a later one, though the sum of all may be smaller.
		{list(api.Most), api.Most, api.ErrLarge}, {list(neg | top), neg | top, api.ErrLarge}, {list(api.One, top), top, api.ErrLarge}, {list(overTie), api.Most, api.ErrLarge},
		{list(overTie, neg|top), api.Most, api.ErrLarge}, {list(tiny, neg|api.One, neg|overTie), neg | api.Most, api.ErrLarge},
	} {
		if got, e := grow.Add(c.l, c.x); len(got) != 0 || e != c.want {
			t.Errorf("Add(%#x, %#x) = %#x, %d, want %d", c.l, c.x, got, e, c.want)
		}
		checkAdd(t, c.l, c.x)
	}
}

func TestAddSamples(t *testing.T) {
	for _, x := range samples() {
		for _, l := range expansions() {
			checkAdd(t, l, x)
		}
		for _, y := range samples() {
			checkAdd(t, list(y), x)
			for _, z := range samples() {
				checkAdd(t, list(y, z), x)
			}
		}
	}
}

// checkSum compares the result of Add or Join with the sum of both parts, and checks its form. A result that has
// lost an error has none.
func checkSum(t *testing.T, got []uint64, sum *big.Float) {
	t.Helper()
	if slices.Contains(got, api.Nan) {
		return
	}
	if len(got) <= 60 {
		checkCheck(t, got, api.OK)
	}
	if total(got).Cmp(sum) != 0 {
		t.Errorf("%#x: not the sum", got)
	}
}

// Expansions of all sizes, with numbers that are near to one of theirs.
func TestAddLists(t *testing.T) {
	r := noise(0xd1342543de82ef95)
	for _, gap := range []int{0, 1, 2, 60} {
		for _, bits := range []int{1, 2, 20, 53} {
			for low := -1074; low < 900; low += 13 {
				l := r.expansion(low, 1+r.below(60), bits, gap)
				near := int(l[r.below(len(l))] &^ neg >> 52)
				for _, x := range list(r.number(0, 2046), r.number(max(near-60, 0), min(near+60, 2046)), neg^l[len(l)-1]) {
					checkAdd(t, l, x)
					if got, e := grow.Add(l, x); e == api.OK {
						checkSum(t, got, new(big.Float).Add(total(l), precise(x)))
					}
				}
			}
		}
	}
}
