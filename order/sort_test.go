package order_test

import (
	"slices"
	"testing"

	"ulpwright/api"
	"ulpwright/order"
)

// checkSort compares Sort with what is expected.
func checkSort(t *testing.T, l, want []uint64) {
	t.Helper()
	if sorted := order.Sort(l); !slices.Equal(sorted, want) {
		t.Errorf("Sort(%#x) = %#x, want %#x", l, sorted, want)
	}
}

// inserted sorts a list by placing its elements one by one.
func inserted(l []uint64) []uint64 {
	var sorted []uint64
	for _, x := range l {
		i := 0
		for i < len(sorted) && place(sorted[i]) < place(x) {
			i++
		}
		sorted = slices.Insert(sorted, i, x)
	}
	return sorted
}

func TestSort(t *testing.T) {
	for _, c := range [][2][]uint64{
		{nil, nil},
		{list(), nil},
		{list(api.One), list(api.One)},
		{list(neg | api.Nan), list(neg | api.Nan)},
		{list(0, neg), list(neg, 0)},
		{list(0, neg, 0, neg, neg), list(neg, neg, neg, 0, 0)},
		{list(api.One, minusOne), list(minusOne, api.One)},
		{list(1, 2, 3), list(1, 2, 3)},
		{list(3, 2, 1), list(1, 2, 3)},
		{list(neg|1, neg|2, neg|3), list(neg|3, neg|2, neg|1)},
		{list(2, 1, 2, 1, 2), list(1, 1, 2, 2, 2)},
		{list(5, 5, 5), list(5, 5, 5)},
		{list(api.Most, smallest, api.One, small, 1), list(1, small, smallest, api.One, api.Most)},
		// CNans keep their bits, and go to both ends by their signs.
		{list(api.Nan, neg|api.Nan, 0), list(neg|api.Nan, 0, api.Nan)},
		{list(api.Inf+1, api.Nan|3, minusInf, lastNan, neg|api.Nan, api.Inf, minusInf+1, api.Nan), list(neg|api.Nan, minusInf+1, minusInf, api.Inf, api.Inf+1, api.Nan, api.Nan|3, lastNan)},
		{list(api.Nan, api.One, api.Nan, neg, api.Nan, 0), list(neg, 0, api.One, api.Nan, api.Nan, api.Nan)},
	} {
		checkSort(t, c[0], c[1])
	}
}

// From any order, the same list results.
func TestSortOrders(t *testing.T) {
	want := ascending()
	l := slices.Clone(want)
	checkSort(t, l, want)
	slices.Reverse(l)
	checkSort(t, l, want)
	r := noise(0x2545f4914f6cdd1d)
	for range 500 {
		for i := range l {
			j := i + int(r.next()%uint64(len(l)-i))
			l[i], l[j] = l[j], l[i]
		}
		checkSort(t, l, want)
	}
}

// Lists of many lengths, without and with elements that occur often.
func TestSortLists(t *testing.T) {
	r := noise(0xda942042e4dd58b5)
	samples := ascending()
	for n := range 150 {
		for _, kinds := range []uint64{2, 5, uint64(len(samples))} {
			var few, many []uint64
			for range n {
				few = append(few, samples[r.next()%kinds*31%uint64(len(samples))])
				many = append(many, r.next())
			}
			checkSort(t, few, inserted(few))
			checkSort(t, many, inserted(many))
		}
	}
}

// Sort has no errors, so api.MaxList is no limit to it.
func TestSortLong(t *testing.T) {
	const n = 300_000
	var l []uint64
	for i := range uint64(n) {
		l = append(l, (i*7919)%n|i%2<<63)
	}
	sorted := order.Sort(l)
	if len(sorted) != n || !slices.IsSortedFunc(sorted, func(x, y uint64) int { return compare(place(x) < place(y), place(x) > place(y)) }) {
		t.Error("a long list is not sorted")
	}
	slices.Sort(sorted)
	slices.Sort(l)
	if !slices.Equal(sorted, l) {
		t.Error("a long list has other elements when it is sorted")
	}
}

// P2: the list stays as it is, its spare capacity included and without bearing on the result.
func TestArgument(t *testing.T) {
	for _, l := range [][]uint64{list(), list(api.One), list(3, 1, 2), ascending(), slices.Repeat(list(2, neg|1), 100)} {
		want := inserted(l)
		for _, spare := range list(0, neg|api.Inf, api.Nan) {
			arg := append(slices.Clone(l), slices.Repeat(list(spare), 30)...)
			before := slices.Clone(arg)
			checkSort(t, arg[:len(l)], want)
			if !slices.Equal(arg, before) {
				t.Errorf("Sort changed %#x", l)
			}
		}
	}
}

// P2: the result shares no memory with the list, or with the result of another call, even if it is sorted already.
func TestResult(t *testing.T) {
	for _, l := range [][]uint64{list(), list(api.One), list(1, 2, 3), list(3, 2, 1), ascending()} {
		arg := append(slices.Clone(l), slices.Repeat(list(7), 30)...)
		before := slices.Clone(arg)
		first, second := order.Sort(arg[:len(l)]), order.Sort(arg[:len(l)])
		first = first[:cap(first)]
		for i := range first {
			first[i] = 99
		}
		if !slices.Equal(arg, before) {
			t.Errorf("the result of Sort shares memory with %#x", l)
		}
		if !slices.Equal(second, inserted(l)) {
			t.Errorf("two results of Sort for %#x share memory", l)
		}
	}
}
