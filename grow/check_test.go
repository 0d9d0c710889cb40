package grow_test

import (
	"slices"
	"testing"

	"ulpwright/api"
	"ulpwright/dyad"
	"ulpwright/grow"
)

func TestCheck(t *testing.T) {
	for _, c := range []struct {
		l    []uint64
		want api.Errno
	}{
		{nil, api.OK}, {list(), api.OK}, {list(1), api.OK}, {list(neg | api.Most), api.OK},
		{list(tiny, api.One), api.OK}, {list(neg|tiny, api.One), api.OK}, {list(tiny, minusOne), api.OK},
		// Next to each other.
		{list(api.One, two), api.OK}, {list(three, four), api.OK}, {list(1, 2), api.OK}, {list(3, 4), api.OK}, {list(small, smallest), api.OK},
		{list(api.One, neg|two, four), api.OK}, {list(half, three, neg|four), api.OK}, {list(1, api.One, api.Most), api.OK}, {list(overTie, api.Most), api.OK},
		// With a bit in common, or in between.
		{list(api.One, api.One), api.ErrForm}, {list(api.One, minusOne), api.ErrForm}, {list(api.One, three), api.ErrForm}, {list(two, three), api.ErrForm},
		{list(three, two), api.ErrForm}, {list(two, five), api.ErrForm}, {list(five, two), api.ErrForm}, {list(1, 3), api.ErrForm}, {list(2, 1), api.ErrForm},
		{list(small, smallest+1), api.ErrForm}, {list(smallest, small), api.ErrForm}, {list(threeTies, api.Most), api.ErrForm},
		{list(api.Most, overTie), api.ErrForm}, {list(api.One, tiny), api.ErrForm}, {list(1, 2, 2, 4), api.ErrForm}, {list(api.One, four, two), api.ErrForm},
		// Zeros.
		{list(0), api.ErrForm}, {list(neg), api.ErrForm}, {list(0, api.One), api.ErrForm}, {list(api.One, neg), api.ErrForm}, {list(api.One, 0, two), api.ErrForm},
		// Numbers without a value come before the form, and the length before both.
		{list(0, api.Inf), api.ErrNone}, {list(two, api.One, api.Nan), api.ErrNone}, {append(powers(0, 1, 59), neg|api.Inf), api.ErrNone},
		{append(powers(0, 1, 60), neg|api.Inf), api.ErrLarge}, {make([]uint64, 60), api.ErrForm}, {make([]uint64, 61), api.ErrLarge},
		{powers(0, 1, 60), api.OK}, {powers(0, 1, 61), api.ErrLarge}, {powers(-1074, 35, 60), api.OK}, {powers(-1074, 1, 2098), api.ErrLarge},
	} {
		checkCheck(t, c.l, c.want)
	}
}

func TestCheckPairs(t *testing.T) {
	for _, x := range samples() {
		checkCheck(t, list(x), expectCheck(list(x)))
		for _, y := range samples() {
			checkCheck(t, list(x, y), expectCheck(list(x, y)))
			checkCheck(t, list(1, x, y, top), expectCheck(list(1, x, y, top)))
		}
	}
}

// Whatever is wrong is found at every place.
func TestCheckPlaces(t *testing.T) {
	for _, l := range expansions() {
		checkCheck(t, l, api.OK)
		for i := range l {
			for _, x := range nothings {
				m := slices.Clone(l)
				m[i] = x
				checkCheck(t, m, api.ErrNone)
			}
			m := slices.Clone(l)
			m[i] = m[i] & neg
			checkCheck(t, m, api.ErrForm)
			if i > 0 {
				m = slices.Clone(l)
				m[i-1], m[i] = m[i], m[i-1]
				checkCheck(t, m, api.ErrForm)
				m[i] = m[i-1]
				checkCheck(t, m, api.ErrForm)
			}
		}
	}
}

func TestCheckLists(t *testing.T) {
	r := noise(0x9e3779b97f4a7c15)
	for _, gap := range []int{0, 1, 2, 20} {
		for _, bits := range []int{1, 2, 5, 53} {
			for low := -1074; low < 900; low += 7 {
				l := r.expansion(low, 60, bits, gap)
				checkCheck(t, l, api.OK)
				i := r.below(len(l))
				l[i] = r.number(0, 2046)
				checkCheck(t, l, expectCheck(l))
				l[i] = l[max(i-1, 0)] ^ 1<<r.below(60)
				checkCheck(t, l, expectCheck(l))
			}
		}
	}
}

func checkValue(t *testing.T, l []uint64) {
	t.Helper()
	e := expectCheck(l)
	d, valueE := grow.Value(l)
	n, signE := grow.Sign(l)
	if valueE != e || signE != e {
		t.Errorf("%#x: errors %d of Value and %d of Sign, want %d", l, valueE, signE, e)
	}
	want := precise(0)
	if e == api.OK {
		want = total(l)
	}
	if dyad.Check(d) != api.OK || exactly(d).Cmp(want) != 0 {
		t.Errorf("Value(%#x) = %v, want %s", l, d, want.Text('p', 0))
	}
	if n != want.Sign() {
		t.Errorf("Sign(%#x) = %d, want %d", l, n, want.Sign())
	}
}

func TestValueAndSign(t *testing.T) {
	for _, c := range []struct {
		l    []uint64
		want api.Dyad
		sign int
	}{
		{nil, api.Dyad{}, 0},
		{list(), api.Dyad{}, 0},
		{list(neg | three), api.Dyad{Neg: true, Mant: []uint32{3}}, -1},
		{list(tiny, api.One), api.Dyad{Mant: []uint32{1, 1 << 22}, Exp: -54}, 1},
		{list(neg|tiny, api.One), api.Dyad{Mant: []uint32{1<<32 - 1, 1<<22 - 1}, Exp: -54}, 1},
		{list(tiny, minusOne), api.Dyad{Neg: true, Mant: []uint32{1<<32 - 1, 1<<22 - 1}, Exp: -54}, -1},
		{list(neg|api.One, neg|two, four), api.Dyad{Mant: []uint32{1}}, 1},
		{powers(0, 1, 60), api.Dyad{Mant: []uint32{1<<32 - 1, 1<<28 - 1}}, 1},
	} {
		if d, e := grow.Value(c.l); !dyad.Same(d, c.want) || e != api.OK {
			t.Errorf("Value(%#x) = %v, %d, want %v", c.l, d, e, c.want)
		}
		if n, e := grow.Sign(c.l); n != c.sign || e != api.OK {
			t.Errorf("Sign(%#x) = %d, %d, want %d", c.l, n, e, c.sign)
		}
		checkValue(t, c.l)
	}
}

func TestValueErrors(t *testing.T) {
	for _, c := range []struct {
		l    []uint64
		want api.Errno
	}{
		{list(0), api.ErrForm}, {list(two, api.One), api.ErrForm}, {list(neg, api.Inf), api.ErrNone}, {list(neg | api.Nan), api.ErrNone},
		{powers(0, 1, 61), api.ErrLarge}, {slices.Repeat(list(api.Nan), 61), api.ErrLarge},
	} {
		if d, e := grow.Value(c.l); !dyad.Same(d, api.Dyad{}) || e != c.want {
			t.Errorf("Value(%#x) = %v, %d, want %d", c.l, d, e, c.want)
		}
		if n, e := grow.Sign(c.l); n != 0 || e != c.want {
			t.Errorf("Sign(%#x) = %d, %d, want %d", c.l, n, e, c.want)
		}
	}
}

func TestValueLists(t *testing.T) {
	for _, l := range expansions() {
		checkValue(t, l)
	}
	for _, x := range samples() {
		checkValue(t, list(x))
		for _, y := range samples() {
			checkValue(t, list(x, y))
		}
	}
	r := noise(0x2545f4914f6cdd1d)
	for _, gap := range []int{0, 1, 30} {
		for _, bits := range []int{1, 2, 53} {
			for low := -1074; low < 900; low += 11 {
				checkValue(t, r.expansion(low, 60, bits, gap))
			}
		}
	}
}
