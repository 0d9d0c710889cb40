package dyad_test

import (
	"encoding/binary"
	"math"
	"math/big"
	"slices"
	"strconv"
	"testing"

	"ulpwright/api"
	"ulpwright/dyad"
)

func of(neg bool, exp int, mant ...uint32) api.Dyad { return api.Dyad{Neg: neg, Mant: mant, Exp: exp} }

// full returns the largest number with n limbs, and power the smallest one.
func full(n int) []uint32 { return slices.Repeat([]uint32{math.MaxUint32}, n) }

func power(n int) []uint32 { return append(make([]uint32, n-1), 1) }

// ends returns an odd number of n limbs with the given lowest and highest limb and zeros between them.
func ends(low, high uint32, n int) []uint32 {
	l := make([]uint32, n)
	l[0], l[n-1] = low, high
	return l
}

func toBig(a []uint32) *big.Int {
	var b []byte
	for _, limb := range slices.Backward(a) {
		b = binary.BigEndian.AppendUint32(b, limb)
	}
	return new(big.Int).SetBytes(b)
}

// fromBig returns the limbs of the absolute value.
func fromBig(v *big.Int) []uint32 {
	n := (v.BitLen() + 31) / 32
	b := v.FillBytes(make([]byte, 4*n))
	a := make([]uint32, n)
	for i := range a {
		a[n-1-i] = binary.BigEndian.Uint32(b[4*i:])
	}
	return a
}

// signed returns Mant, negated if Neg is true.
func signed(d api.Dyad) *big.Int {
	v := toBig(d.Mant)
	if d.Neg {
		v.Neg(v)
	}
	return v
}

// in returns the value of d in units of 2^exp, where exp is at most Exp of d.
func in(exp int, d api.Dyad) *big.Int { return new(big.Int).Lsh(signed(d), uint(d.Exp-exp)) }

// expect is what a function has to return if its result is v times 2^exp.
func expect(v *big.Int, exp int) (api.Dyad, api.Errno) {
	if v.Sign() == 0 {
		return api.Dyad{}, api.OK
	}
	zeros := v.TrailingZeroBits()
	mant := new(big.Int).Rsh(new(big.Int).Abs(v), zeros)
	exp += int(zeros)
	if mant.BitLen() > 32*400 || exp < -10000 || exp > 10000 {
		return api.Dyad{}, api.ErrLarge
	}
	return of(v.Sign() < 0, exp, fromBig(mant)...), api.OK
}

func equal(c, d api.Dyad) bool {
	return c.Neg == d.Neg && c.Exp == d.Exp && slices.Equal(c.Mant, d.Mant)
}

// brief keeps the report of a failure readable.
func brief(d api.Dyad) string {
	s := signed(d).Text(16)
	if len(s) > 60 {
		s = s[:25] + "..." + s[len(s)-25:]
	}
	return s + "*2^" + strconv.Itoa(d.Exp) + " (" + strconv.Itoa(len(d.Mant)) + " limbs)"
}

// noise is a source of the same numbers in every run.
type noise uint64

func (x *noise) next() uint32 {
	*x ^= *x << 13
	*x ^= *x >> 7
	*x ^= *x << 17
	return uint32(*x >> 16)
}

// mant returns an odd number of n limbs, some of which are zeros or full.
func (x *noise) mant(n int) []uint32 {
	l := make([]uint32, n)
	for i := range l {
		l[i] = []uint32{0, math.MaxUint32, x.next(), x.next()}[x.next()%4]
	}
	l[0] |= 1
	l[n-1] |= 1 << (x.next() % 32)
	return l
}

// samples returns valid Dyads of many lengths and exponents, up to the limits.
func samples() []api.Dyad {
	l := []api.Dyad{{}}
	put := func(exp int, mant ...uint32) { l = append(l, of(false, exp, mant...), of(true, exp, mant...)) }
	for _, exp := range []int{-10000, -9999, -33, -1, 0, 1, 2, 31, 32, 2799, 2800, 2801, 9999, 10000} {
		put(exp, 1)
		put(exp, 3)
		put(exp, full(400)...)
	}
	x := noise(0x9e3779b97f4a7c15)
	for i := range 40 {
		put(int(x.next()%200)-100, x.mant(1+i%6)...)
	}
	for _, n := range []int{30, 199, 200, 201, 399, 400} {
		put(int(x.next()%100)-50, x.mant(n)...)
		put(-1, full(n)...)
		put(0, ends(1, 1<<31, n)...)
	}
	put(-10000, x.mant(400)...)
	put(10000, x.mant(400)...)
	return l
}

func TestCheck(t *testing.T) {
	for _, c := range []struct {
		name string
		d    api.Dyad
		want api.Errno
	}{
		{"0", api.Dyad{}, api.OK},
		{"0 with an empty list", of(false, 0, []uint32{}...), api.OK},
		{"1", of(false, 0, 1), api.OK},
		{"-1", of(true, 0, 1), api.OK},
		{"odd with an even limb above", of(false, 5, 7, 2), api.OK},
		{"lowest Exp", of(true, -10000, 1), api.OK},
		{"highest Exp", of(false, 10000, 1), api.OK},
		{"400 limbs", of(false, 10000, full(400)...), api.OK},
		{"400 limbs with zeros", of(true, -10000, ends(1, 1, 400)...), api.OK},
		{"-0", of(true, 0), api.ErrForm},
		{"0 with Exp 1", of(false, 1), api.ErrForm},
		{"0 with Exp -1", of(false, -1), api.ErrForm},
		{"0 with a limb", of(false, 0, 0), api.ErrForm},
		{"2", of(false, 0, 2), api.ErrForm},
		{"lowest limb 0", of(false, 0, 0, 1), api.ErrForm},
		{"even with an odd limb above", of(false, 0, 6, 1), api.ErrForm},
		{"highest limb 0", of(false, 0, 1, 0), api.ErrForm},
		{"400 limbs, even", of(false, 10000, power(400)...), api.ErrForm},
		{"400 limbs, the highest 0", of(false, 0, append(full(399), 0)...), api.ErrForm},
		{"0 with the highest Exp", of(true, 10000), api.ErrForm},
		{"401 limbs", of(false, 0, full(401)...), api.ErrLarge},
		{"401 limbs, even", of(false, 0, power(401)...), api.ErrLarge},
		{"401 limbs, the highest 0", of(false, 0, append(full(400), 0)...), api.ErrLarge},
		{"Exp too low", of(false, -10001, 1), api.ErrLarge},
		{"Exp too high", of(true, 10001, 1), api.ErrLarge},
		{"Exp too high, even", of(false, 10001, 2), api.ErrLarge},
		{"0 with Exp too high", of(false, 10001), api.ErrLarge},
		{"-0 with Exp too low", of(true, -10001), api.ErrLarge},
		{"lowest int", of(false, math.MinInt, 1), api.ErrLarge},
		{"highest int", of(false, math.MaxInt, 1), api.ErrLarge},
	} {
		if e := dyad.Check(c.d); e != c.want {
			t.Errorf("Check of %s = %d, want %d", c.name, e, c.want)
		}
	}
	for _, d := range samples() {
		if e := dyad.Check(d); e != api.OK {
			t.Errorf("Check(%s) = %d", brief(d), e)
		}
	}
}

func TestSame(t *testing.T) {
	different := []api.Dyad{
		{}, of(true, 0), of(false, 1), of(false, 0, 0), of(false, 0, 0, 0), of(false, 0, 1), of(true, 0, 1), of(false, 1, 1),
		of(false, -1, 2), of(false, 0, 1, 0), of(false, 0, 1, 1), of(false, 0, 1, 2), of(false, 0, 2, 1), of(false, math.MaxInt, 1),
		of(false, math.MinInt, 1), of(false, 0, full(400)...), of(false, 0, full(401)...), of(true, 20000, full(5000)...),
	}
	for i, c := range different {
		for j, d := range different {
			d.Mant = slices.Clone(d.Mant)
			if got := dyad.Same(c, d); got != (i == j) {
				t.Errorf("Same(%s, %s) = %t", brief(c), brief(d), got)
			}
		}
	}
	if !dyad.Same(api.Dyad{}, api.Dyad{Mant: []uint32{}}) {
		t.Error("Same distinguishes nil from an empty list")
	}
}

func TestOf(t *testing.T) {
	for _, c := range []struct {
		x    uint64
		want api.Dyad
	}{
		{0, api.Dyad{}},
		{api.Sign, api.Dyad{}},
		{1, of(false, -1074, 1)},
		{api.Sign | 1, of(true, -1074, 1)},
		{2, of(false, -1073, 1)},
		{1<<52 - 1, of(false, -1074, math.MaxUint32, 1<<20-1)},
		{1 << 52, of(false, -1022, 1)},
		{1<<52 + 1, of(false, -1074, 1, 1<<20)},
		{api.One, of(false, 0, 1)},
		{0x3ff8000000000000, of(false, -1, 3)},
		{0xc008000000000000, of(true, 0, 3)},
		{0x4330000000000000, of(false, 52, 1)},
		{0x4330000000000001, of(false, 0, 1, 1<<20)},
		{api.Most, of(false, 971, math.MaxUint32, 1<<21-1)},
		{api.Sign | api.Most, of(true, 971, math.MaxUint32, 1<<21-1)},
	} {
		if d, e := dyad.Of(c.x); !equal(d, c.want) || e != api.OK {
			t.Errorf("Of(%#x) = %s, %d, want %s", c.x, brief(d), e, brief(c.want))
		}
	}
	for _, x := range []uint64{api.Inf, api.Inf + 1, api.Nan, api.Sign - 1} {
		for _, x := range []uint64{x, x | api.Sign} {
			if d, e := dyad.Of(x); !equal(d, api.Dyad{}) || e != api.ErrNone {
				t.Errorf("Of(%#x) = %s, %d", x, brief(d), e)
			}
		}
	}
}

func TestOfAgainstMath(t *testing.T) {
	x := noise(0x2545f4914f6cdd1d)
	for exp := range uint64(2047) {
		for range 4 {
			bits := uint64(x.next())<<52<<11 | exp<<52 | uint64(x.next())<<20 | uint64(x.next()%3)
			d, e := dyad.Of(bits)
			want := new(big.Float).SetFloat64(math.Float64frombits(bits))
			got := new(big.Float).SetMantExp(new(big.Float).SetInt(signed(d)), d.Exp)
			if got.Cmp(want) != 0 || dyad.Check(d) != api.OK || e != api.OK {
				t.Fatalf("Of(%#x) = %s, %d", bits, brief(d), e)
			}
		}
	}
}

func TestMake(t *testing.T) {
	for _, c := range []struct {
		neg  bool
		mant []uint32
		exp  int
		want api.Dyad
	}{
		{false, nil, 0, api.Dyad{}},
		{true, nil, 0, api.Dyad{}},
		{true, []uint32{}, 10000, api.Dyad{}},
		{false, nil, -10000, api.Dyad{}},
		{false, []uint32{1}, 0, of(false, 0, 1)},
		{true, []uint32{1}, -7, of(true, -7, 1)},
		{false, []uint32{6}, 2, of(false, 3, 3)},
		{true, []uint32{1 << 31}, 0, of(true, 31, 1)},
		{false, []uint32{0, 1}, 0, of(false, 32, 1)},
		{true, []uint32{0, 12}, 5, of(true, 39, 3)},
		{false, []uint32{4, 3}, 0, of(false, 2, 0xc0000001)},
		{false, []uint32{0, 0, 0x60000000, 5}, -1, of(false, 92, 0x2b)},
		{false, full(400), 10000, of(false, 10000, full(400)...)},
		{true, full(400), -10000, of(true, -10000, full(400)...)},
		{false, []uint32{2}, 9999, of(false, 10000, 1)},
		{false, []uint32{2}, -10000, of(false, -9999, 1)},
		{true, power(400), -10000, of(true, 2768, 1)},
		{true, power(400), -2768, of(true, 10000, 1)},
	} {
		if d, e := dyad.Make(c.neg, c.mant, c.exp); !equal(d, c.want) || e != api.OK {
			t.Errorf("Make(%t, %s) = %s, %d", c.neg, brief(of(false, c.exp, c.mant...)), brief(d), e)
		}
	}
}

func TestMakeAgainstBig(t *testing.T) {
	for _, d := range samples() {
		for _, zeros := range []int{0, 1, 31, 32, 33, 64, 100, 1000} {
			mant := fromBig(new(big.Int).Lsh(toBig(d.Mant), uint(zeros)))
			if len(mant) > 400 {
				continue
			}
			v := toBig(mant)
			if d.Neg {
				v.Neg(v)
			}
			want, wantE := expect(v, d.Exp)
			if got, e := dyad.Make(d.Neg, mant, d.Exp); !equal(got, want) || e != wantE {
				t.Errorf("Make(%s with %d zeros) = %s, %d", brief(d), zeros, brief(got), e)
			}
		}
	}
}

func TestMakeErrors(t *testing.T) {
	for _, c := range []struct {
		mant []uint32
		exp  int
		want api.Errno
	}{
		{full(401), 0, api.ErrLarge},
		{make([]uint32, 401), 10001, api.ErrLarge},
		{power(401), -10001, api.ErrLarge},
		{[]uint32{0}, 0, api.ErrForm},
		{[]uint32{1, 0}, 10001, api.ErrForm},
		{make([]uint32, 400), math.MinInt, api.ErrForm},
		{nil, 10001, api.ErrArg},
		{nil, -10001, api.ErrArg},
		{[]uint32{1}, 10001, api.ErrArg},
		{[]uint32{1}, -10001, api.ErrArg},
		{[]uint32{2}, -10001, api.ErrArg},
		{[]uint32{1}, math.MaxInt, api.ErrArg},
		{[]uint32{1}, math.MinInt, api.ErrArg},
		{[]uint32{2}, 10000, api.ErrLarge},
		{[]uint32{0, 1}, 9969, api.ErrLarge},
		{power(400), -2767, api.ErrLarge},
	} {
		for _, neg := range []bool{false, true} {
			if d, e := dyad.Make(neg, c.mant, c.exp); !equal(d, api.Dyad{}) || e != c.want {
				t.Errorf("Make(%t, %s) = %s, %d, want %d", neg, brief(of(false, c.exp, c.mant...)), brief(d), e, c.want)
			}
		}
	}
}

func TestShift(t *testing.T) {
	for _, c := range []struct {
		d    api.Dyad
		n    int
		want api.Dyad
		e    api.Errno
	}{
		{api.Dyad{}, 0, api.Dyad{}, api.OK},
		{api.Dyad{}, 20000, api.Dyad{}, api.OK},
		{api.Dyad{}, -20000, api.Dyad{}, api.OK},
		{of(false, 3, 5), 0, of(false, 3, 5), api.OK},
		{of(true, 3, 5), 4, of(true, 7, 5), api.OK},
		{of(false, 3, 5, 7), -4, of(false, -1, 5, 7), api.OK},
		{of(true, -10000, full(400)...), 20000, of(true, 10000, full(400)...), api.OK},
		{of(false, 10000, full(400)...), -20000, of(false, -10000, full(400)...), api.OK},
		{of(false, 0, 1), 10000, of(false, 10000, 1), api.OK},
		{of(false, 0, 1), -10000, of(false, -10000, 1), api.OK},
		{of(false, 0, 1), 10001, api.Dyad{}, api.ErrLarge},
		{of(false, 0, 1), -10001, api.Dyad{}, api.ErrLarge},
		{of(false, 10000, 1), 1, api.Dyad{}, api.ErrLarge},
		{of(true, -10000, 1), -1, api.Dyad{}, api.ErrLarge},
		{of(false, 1, 1), 20000, api.Dyad{}, api.ErrLarge},
		{of(false, -10000, 1), 20001, api.Dyad{}, api.ErrArg},
		{of(false, 10000, 1), -20001, api.Dyad{}, api.ErrArg},
		{of(false, 0, 1), 20001, api.Dyad{}, api.ErrArg},
		{api.Dyad{}, 20001, api.Dyad{}, api.ErrArg},
		{api.Dyad{}, -20001, api.Dyad{}, api.ErrArg},
		{of(false, 0, 1), math.MaxInt, api.Dyad{}, api.ErrArg},
		{of(false, -10000, 1), math.MinInt, api.Dyad{}, api.ErrArg},
	} {
		if d, e := dyad.Shift(c.d, c.n); !equal(d, c.want) || e != c.e {
			t.Errorf("Shift(%s, %d) = %s, %d, want %s, %d", brief(c.d), c.n, brief(d), e, brief(c.want), c.e)
		}
	}
	for _, d := range samples() {
		for _, n := range []int{0, 1, 2, 31, 32, 33, 2767, 10000, 10001, 19999, 20000} {
			for _, n := range []int{n, -n} {
				want, wantE := expect(signed(d), d.Exp+n)
				if got, e := dyad.Shift(d, n); !equal(got, want) || e != wantE {
					t.Errorf("Shift(%s, %d) = %s, %d", brief(d), n, brief(got), e)
				}
			}
		}
	}
}
