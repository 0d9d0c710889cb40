package nat_test

import (
	"math"
	"math/big"
	"slices"
	"strings"
	"testing"

	"ulpwright/api"
	"ulpwright/nat"
)

// noise is a source of the same numbers in every run.
type noise uint64

func (x *noise) next() uint32 {
	*x ^= *x << 13
	*x ^= *x >> 7
	*x ^= *x << 17
	return uint32(*x >> 16)
}

// limb returns one of the limbs at which carries, borrows and guesses of quotients go wrong, or any.
func (x *noise) limb() uint32 {
	special := []uint32{0, 0, 1, 2, 0x7fffffff, 0x80000000, 0x80000001, 0xfffffffe, 0xffffffff, 0xffffffff}
	if i := x.next() % 15; int(i) < len(special) {
		return special[i]
	}
	return x.next()
}

// list returns a list in normal form with at most n limbs.
func (x *noise) list(n int) []uint32 {
	l := make([]uint32, n)
	for i := range l {
		l[i] = x.limb()
	}
	for len(l) > 0 && l[len(l)-1] == 0 {
		l = l[:len(l)-1]
	}
	return l
}

// samples returns lists of many lengths, up to the limit.
func samples() [][]uint32 {
	l := [][]uint32{nil, {1}, {2}, {3}, {10}, {math.MaxUint32}, {0, 1}, {1, 1}, {0, 0, 1}, full(1), full(2), full(3)}
	x := noise(0x9e3779b97f4a7c15)
	for i := range 120 {
		l = append(l, x.list(1+i%8))
	}
	for _, n := range []int{12, 13, 30, 31, 100, 199, 200, 201, 399, 400} {
		l = append(l, x.list(n), full(n), power(n))
	}
	return l
}

// full returns the largest number with n limbs, and power the smallest one.
func full(n int) []uint32 { return slices.Repeat([]uint32{math.MaxUint32}, n) }

func power(n int) []uint32 { return append(make([]uint32, n-1), 1) }

func toBig(a []uint32) *big.Int {
	v := new(big.Int)
	for _, limb := range slices.Backward(a) {
		v.Lsh(v, 32).Or(v, big.NewInt(int64(limb)))
	}
	return v
}

func fromBig(v *big.Int) []uint32 {
	var a []uint32
	for v = new(big.Int).Set(v); v.Sign() > 0; v.Rsh(v, 32) {
		a = append(a, uint32(v.Uint64()))
	}
	return a
}

// brief keeps the report of a failure readable.
func brief(a []uint32) string {
	if len(a) > 12 {
		return toBig(a).Text(16)[:40] + "..."
	}
	return toBig(a).Text(16)
}

// same tells whether a list is v in normal form.
func same(a []uint32, v *big.Int) bool { return slices.Equal(a, fromBig(v)) }

func TestCheck(t *testing.T) {
	for _, c := range []struct {
		name string
		a    []uint32
		want api.Errno
	}{
		{"nil", nil, api.OK},
		{"empty", []uint32{}, api.OK},
		{"1", []uint32{1}, api.OK},
		{"a limb", []uint32{math.MaxUint32}, api.OK},
		{"zeros below", []uint32{0, 0, 1}, api.OK},
		{"0 with a limb", []uint32{0}, api.ErrForm},
		{"0 with two limbs", []uint32{0, 0}, api.ErrForm},
		{"1 with two limbs", []uint32{1, 0}, api.ErrForm},
		{"399 limbs", full(399), api.OK},
		{"400 limbs", full(400), api.OK},
		{"2^(32*399)", power(400), api.OK},
		{"400 zeros", make([]uint32, 400), api.ErrForm},
		{"401 limbs", full(401), api.ErrLarge},
		{"2^(32*400)", power(401), api.ErrLarge},
		{"401 zeros", make([]uint32, 401), api.ErrLarge},
		{"10000 limbs", full(10000), api.ErrLarge},
	} {
		if e := nat.Check(c.a); e != c.want {
			t.Errorf("Check of %s = %d, want %d", c.name, e, c.want)
		}
	}
	for _, a := range samples() {
		if e := nat.Check(a); e != api.OK {
			t.Errorf("Check(%s) = %d", brief(a), e)
		}
	}
}

func TestOf(t *testing.T) {
	for _, c := range []struct {
		n    uint64
		want []uint32
	}{
		{0, nil},
		{1, []uint32{1}},
		{math.MaxUint32, []uint32{math.MaxUint32}},
		{1 << 32, []uint32{0, 1}},
		{1<<32 + 5, []uint32{5, 1}},
		{0x123456789abcdef0, []uint32{0x9abcdef0, 0x12345678}},
		{1 << 63, []uint32{0, 1 << 31}},
		{math.MaxUint64, []uint32{math.MaxUint32, math.MaxUint32}},
	} {
		if a := nat.Of(c.n); !slices.Equal(a, c.want) {
			t.Errorf("Of(%#x) = %x, want %x", c.n, a, c.want)
		}
	}
}

func TestCmp(t *testing.T) {
	for _, c := range []struct {
		a, b []uint32
		want int
	}{
		{nil, nil, 0},
		{nil, []uint32{}, 0},
		{nil, []uint32{1}, -1},
		{[]uint32{1}, nil, 1},
		{[]uint32{7}, []uint32{7}, 0},
		{[]uint32{7}, []uint32{8}, -1},
		{[]uint32{0x80000000}, []uint32{0x7fffffff}, 1},
		{[]uint32{math.MaxUint32}, []uint32{0, 1}, -1},
		{[]uint32{9, 1}, []uint32{1, 9}, -1},
		{[]uint32{1, 5}, []uint32{2, 5}, -1},
		{full(400), power(400), 1},
		{power(400), full(399), 1},
		{full(400), full(400), 0},
	} {
		if n, e := nat.Cmp(c.a, c.b); n != c.want || e != api.OK {
			t.Errorf("Cmp(%s, %s) = %d, %d", brief(c.a), brief(c.b), n, e)
		}
	}
	for _, a := range samples() {
		for _, b := range samples() {
			if n, e := nat.Cmp(a, b); n != toBig(a).Cmp(toBig(b)) || e != api.OK {
				t.Errorf("Cmp(%s, %s) = %d, %d", brief(a), brief(b), n, e)
			}
		}
	}
}

func TestBits(t *testing.T) {
	for _, c := range []struct {
		a    []uint32
		want int
	}{
		{nil, 0},
		{[]uint32{1}, 1},
		{[]uint32{2}, 2},
		{[]uint32{3}, 2},
		{[]uint32{0x7fffffff}, 31},
		{[]uint32{0x80000000}, 32},
		{[]uint32{0, 1}, 33},
		{full(2), 64},
		{power(400), 32*399 + 1},
		{full(400), 12800},
	} {
		if n, e := nat.Bits(c.a); n != c.want || e != api.OK {
			t.Errorf("Bits(%s) = %d, %d, want %d", brief(c.a), n, e, c.want)
		}
	}
	for _, a := range samples() {
		if n, e := nat.Bits(a); n != toBig(a).BitLen() || e != api.OK {
			t.Errorf("Bits(%s) = %d, %d", brief(a), n, e)
		}
	}
}

func TestAddSubAndMul(t *testing.T) {
	for _, a := range samples() {
		for _, b := range samples() {
			v, w := toBig(a), toBig(b)
			if s, e := nat.Add(a, b); !same(s, new(big.Int).Add(v, w)) || e != api.OK {
				t.Fatalf("Add(%s, %s) = %s, %d", brief(a), brief(b), brief(s), e)
			}
			if p, e := nat.Mul(a, b); !same(p, new(big.Int).Mul(v, w)) || e != api.OK {
				t.Fatalf("Mul(%s, %s) = %s, %d", brief(a), brief(b), brief(p), e)
			}
			d, e := nat.Sub(a, b)
			if v.Cmp(w) < 0 {
				if len(d) != 0 || e != api.ErrArg {
					t.Fatalf("Sub(%s, %s) = %s, %d", brief(a), brief(b), brief(d), e)
				}
				continue
			}
			if !same(d, new(big.Int).Sub(v, w)) || e != api.OK {
				t.Fatalf("Sub(%s, %s) = %s, %d", brief(a), brief(b), brief(d), e)
			}
		}
	}
}

// Results may have more limbs than arguments may have.
func TestResultsBeyondTheLimit(t *testing.T) {
	if s, e := nat.Add(full(400), []uint32{1}); !slices.Equal(s, power(401)) || e != api.OK {
		t.Errorf("Add: %d limbs, %d", len(s), e)
	}
	if s, e := nat.Add(full(400), full(400)); len(s) != 401 || e != api.OK {
		t.Errorf("Add: %d limbs, %d", len(s), e)
	}
	if p, e := nat.Mul(full(400), full(400)); len(p) != 800 || e != api.OK {
		t.Errorf("Mul: %d limbs, %d", len(p), e)
	}
	if s, lost, e := nat.Shift(power(400), 20000); len(s) != 1025 || lost || e != api.OK {
		t.Errorf("Shift: %d limbs, %t, %d", len(s), lost, e)
	}
}

func TestSubErrors(t *testing.T) {
	for _, c := range [][2][]uint32{
		{nil, {1}},
		{{1}, {2}},
		{{math.MaxUint32}, {0, 1}},
		{{5, 1}, {6, 1}},
		{full(399), power(400)},
	} {
		if d, e := nat.Sub(c[0], c[1]); len(d) != 0 || e != api.ErrArg {
			t.Errorf("Sub(%s, %s) = %s, %d", brief(c[0]), brief(c[1]), brief(d), e)
		}
	}
}

func checkDiv(t *testing.T, a, b []uint32) {
	t.Helper()
	q, r, e := nat.Div(a, b)
	if len(b) == 0 {
		if len(q) != 0 || len(r) != 0 || e != api.ErrArg {
			t.Errorf("Div(%s, 0) = %s, %s, %d", brief(a), brief(q), brief(r), e)
		}
		return
	}
	v, w := new(big.Int).QuoRem(toBig(a), toBig(b), new(big.Int))
	if !same(q, v) || !same(r, w) || e != api.OK {
		t.Errorf("Div(%s, %s) = %s, %s, %d", brief(a), brief(b), brief(q), brief(r), e)
	}
}

func TestDiv(t *testing.T) {
	for _, c := range []struct{ a, b, q, r []uint32 }{
		{nil, []uint32{1}, nil, nil},
		{nil, full(400), nil, nil},
		{[]uint32{7}, []uint32{2}, []uint32{3}, []uint32{1}},
		{[]uint32{7}, []uint32{7}, []uint32{1}, nil},
		{[]uint32{7}, []uint32{8}, nil, []uint32{7}},
		{[]uint32{0, 1}, []uint32{math.MaxUint32}, []uint32{1}, []uint32{1}},
		{[]uint32{0, 1}, []uint32{2}, []uint32{0x80000000}, nil},
		{full(400), []uint32{1}, full(400), nil},
		{full(400), full(400), []uint32{1}, nil},
		{full(399), full(400), nil, full(399)},
		{power(400), full(399), []uint32{1}, []uint32{1}},
	} {
		q, r, e := nat.Div(c.a, c.b)
		if !slices.Equal(q, c.q) || !slices.Equal(r, c.r) || e != api.OK {
			t.Errorf("Div(%s, %s) = %s, %s, %d", brief(c.a), brief(c.b), brief(q), brief(r), e)
		}
	}
	for _, a := range samples() {
		for _, b := range samples() {
			checkDiv(t, a, b)
		}
	}
}

// The guess of a limb of the quotient from the highest limbs can be too large by 1 or 2, or too large
// for a limb; all combinations of the limbs at the ends of their range are tried.
func TestDivGuesses(t *testing.T) {
	ends := []uint32{0, 1, 0x7fffffff, 0x80000000, 0xfffffffe, 0xffffffff}
	lists := [][]uint32{nil}
	for i := 0; len(lists) < 1500; i++ {
		for _, limb := range ends {
			lists = append(lists, append(slices.Clone(lists[i]), limb))
		}
	}
	lists = slices.DeleteFunc(lists, func(l []uint32) bool { return len(l) == 0 || l[len(l)-1] == 0 })
	for i, a := range lists {
		for j := i % 3; j < len(lists); j += 3 {
			checkDiv(t, a, lists[j])
		}
	}
	x := noise(88172645463325252)
	for i := range 30000 {
		checkDiv(t, x.list(1+i%9), x.list(1+i%5))
	}
}

// Products of a divisor plus or minus 1 have a remainder of 0, or next to 0 or to the divisor.
func TestDivOfProducts(t *testing.T) {
	x := noise(362436069)
	one := big.NewInt(1)
	for i := range 3000 {
		b, c := x.list(1+i%7), x.list(1+i%4)
		p := new(big.Int).Mul(toBig(b), toBig(c))
		for _, v := range []*big.Int{p, new(big.Int).Add(p, one), new(big.Int).Sub(p, one)} {
			if v.Sign() >= 0 {
				checkDiv(t, fromBig(v), b)
			}
		}
	}
}

func checkShift(t *testing.T, a []uint32, n int) {
	t.Helper()
	v := toBig(a)
	want, loses := new(big.Int), false
	if n >= 0 {
		want.Lsh(v, uint(n))
	} else {
		want.Rsh(v, uint(-n))
		loses = new(big.Int).Lsh(want, uint(-n)).Cmp(v) != 0
	}
	if s, lost, e := nat.Shift(a, n); !same(s, want) || lost != loses || e != api.OK {
		t.Errorf("Shift(%s, %d) = %s, %t, %d", brief(a), n, brief(s), lost, e)
	}
}

func TestShift(t *testing.T) {
	for _, c := range []struct {
		a    []uint32
		n    int
		want []uint32
		lost bool
	}{
		{nil, 0, nil, false},
		{nil, 20000, nil, false},
		{nil, -20000, nil, false},
		{[]uint32{5}, 0, []uint32{5}, false},
		{[]uint32{5}, 1, []uint32{10}, false},
		{[]uint32{5}, 32, []uint32{0, 5}, false},
		{[]uint32{0x80000001}, 1, []uint32{2, 1}, false},
		{[]uint32{0x80000001}, 33, []uint32{0, 2, 1}, false},
		{[]uint32{5}, -1, []uint32{2}, true},
		{[]uint32{4}, -2, []uint32{1}, false},
		{[]uint32{4}, -3, nil, true},
		{[]uint32{1}, -1, nil, true},
		{[]uint32{0, 6}, -32, []uint32{6}, false},
		{[]uint32{0, 6}, -33, []uint32{3}, false},
		{[]uint32{0, 6}, -34, []uint32{1}, true},
		{[]uint32{1, 6}, -33, []uint32{3}, true},
		{[]uint32{0x80000000, 6}, -31, []uint32{13}, false},
		{[]uint32{0, 6}, -64, nil, true},
		{full(400), -20000, nil, true},
		{full(400), -12799, []uint32{1}, true},
		{full(400), -12800, nil, true},
		{power(400), -12768, []uint32{1}, false},
		{[]uint32{1}, 20000, append(make([]uint32, 625), 1), false},
	} {
		if s, lost, e := nat.Shift(c.a, c.n); !slices.Equal(s, c.want) || lost != c.lost || e != api.OK {
			t.Errorf("Shift(%s, %d) = %s, %t, %d", brief(c.a), c.n, brief(s), lost, e)
		}
	}
	for _, a := range samples() {
		for _, n := range []int{0, 1, 5, 31, 32, 33, 63, 64, 65, 95, 1000, 12799, 12800, 12801, 20000} {
			checkShift(t, a, n)
			checkShift(t, a, -n)
		}
	}
}

// One 1 among zeros is lost by a shift to the right exactly if it is shifted out.
func TestShiftLosesOneBit(t *testing.T) {
	for bit := range 100 {
		a := fromBig(new(big.Int).Or(new(big.Int).Lsh(big.NewInt(1), 130), new(big.Int).Lsh(big.NewInt(1), uint(bit))))
		for n := range 140 {
			checkShift(t, a, -n)
		}
	}
}

func TestShiftErrors(t *testing.T) {
	for _, a := range [][]uint32{nil, {1}, full(400)} {
		for _, n := range []int{20001, -20001, 1 << 31, -1 << 31, 1 << 32, -1 << 32, math.MaxInt, math.MinInt, math.MinInt + 1} {
			if s, lost, e := nat.Shift(a, n); len(s) != 0 || lost || e != api.ErrArg {
				t.Errorf("Shift(%s, %d) = %s, %t, %d", brief(a), n, brief(s), lost, e)
			}
		}
	}
}

func checkRoot(t *testing.T, v *big.Int) {
	t.Helper()
	want := new(big.Int).Sqrt(v)
	leaves := new(big.Int).Mul(want, want).Cmp(v) != 0
	if r, left, e := nat.Root(fromBig(v)); !same(r, want) || left != leaves || e != api.OK {
		t.Errorf("Root(%s) = %s, %t, %d", brief(fromBig(v)), brief(r), left, e)
	}
}

func TestRoot(t *testing.T) {
	for _, c := range []struct {
		a, want []uint32
		left    bool
	}{
		{nil, nil, false},
		{[]uint32{1}, []uint32{1}, false},
		{[]uint32{2}, []uint32{1}, true},
		{[]uint32{3}, []uint32{1}, true},
		{[]uint32{4}, []uint32{2}, false},
		{[]uint32{99}, []uint32{9}, true},
		{[]uint32{100}, []uint32{10}, false},
		{[]uint32{math.MaxUint32}, []uint32{65535}, true},
		{[]uint32{0, 1}, []uint32{65536}, false},
		{[]uint32{0, 0, 1}, []uint32{0, 1}, false},
		{[]uint32{1, 0, 1}, []uint32{0, 1}, true},
		{full(2), []uint32{math.MaxUint32}, true},
		{power(399), power(200), false},
		{full(400), full(200), true},
	} {
		if r, left, e := nat.Root(c.a); !slices.Equal(r, c.want) || left != c.left || e != api.OK {
			t.Errorf("Root(%s) = %s, %t, %d", brief(c.a), brief(r), left, e)
		}
	}
	for n := range int64(3000) {
		checkRoot(t, big.NewInt(n))
	}
	for _, a := range samples() {
		checkRoot(t, toBig(a))
	}
}

// The root changes at squares, and nowhere else.
func TestRootAroundSquares(t *testing.T) {
	one := big.NewInt(1)
	for _, a := range samples() {
		if len(a) == 0 || len(a) > 200 {
			continue
		}
		square := new(big.Int).Mul(toBig(a), toBig(a))
		checkRoot(t, square)
		checkRoot(t, new(big.Int).Sub(square, one))
		checkRoot(t, new(big.Int).Add(square, one))
		checkRoot(t, new(big.Int).Add(square, toBig(a)))
	}
}

func TestText(t *testing.T) {
	for _, c := range []struct {
		a    []uint32
		want string
	}{
		{nil, "0"},
		{[]uint32{}, "0"},
		{[]uint32{7}, "7"},
		{[]uint32{10}, "10"},
		{[]uint32{999999999}, "999999999"},
		{[]uint32{1000000000}, "1000000000"},
		{[]uint32{1000000001}, "1000000001"},
		{[]uint32{math.MaxUint32}, "4294967295"},
		{[]uint32{0, 1}, "4294967296"},
		{nat.Of(1000000000000000000), "1000000000000000000"},
		{nat.Of(5000000000000000070), "5000000000000000070"},
		{full(2), "18446744073709551615"},
	} {
		if s, e := nat.Text(c.a); s != c.want || e != api.OK {
			t.Errorf("Text(%s) = %q, %d, want %q", brief(c.a), s, e, c.want)
		}
	}
	for _, a := range samples() {
		if s, e := nat.Text(a); s != toBig(a).String() || e != api.OK {
			t.Errorf("Text(%s) = %q, %d", brief(a), s, e)
		}
	}
}

// Powers of ten and their neighbours have groups of zeros and nines.
func TestTextOfPowersOfTen(t *testing.T) {
	for n := range 100 {
		v, _ := new(big.Int).SetString("1"+strings.Repeat("0", n), 10)
		for _, d := range []int64{-1, 0, 1} {
			w := new(big.Int).Add(v, big.NewInt(d))
			if s, e := nat.Text(fromBig(w)); s != w.String() || e != api.OK {
				t.Errorf("Text(%s) = %q, %d", w, s, e)
			}
		}
	}
}
