package grow_test

import (
	"math"
	"math/big"
	"slices"
	"testing"

	"ulpwright/api"
	"ulpwright/grow"
)

const (
	neg       = api.Sign
	minusOne  = neg | api.One
	tiny      = 0x3c90000000000000 // 2^-54
	half      = 0x3fe0000000000000
	two       = 0x4000000000000000
	three     = 0x4008000000000000
	four      = 0x4010000000000000
	five      = 0x4014000000000000
	small     = 1<<52 - 1 // the largest CSmall
	smallest  = 1 << 52   // the smallest CNormal
	twoTo53   = 0x4340000000000000
	overTie   = 0x7c90000000000000 // 2^970, half of the distance from api.Most to 2^1024
	threeTies = 0x7ca8000000000000 // 3 times 2^970
	top       = 0x7fe0000000000000 // 2^1023
	least     = 0x26f0000000000000 // 2^-400
	greatest  = 0x58f0000000000000 // 2^400
)

var (
	nans     = []uint64{api.Nan, api.Inf + 1, api.Sign - 1, api.Nan | 7, neg | api.Nan, neg | api.Inf + 1, math.MaxUint64}
	nothings = append([]uint64{api.Inf, neg | api.Inf}, nans...) // numbers without a value
)

func list(l ...uint64) []uint64 { return l }

// powers returns n powers of 2, beginning with 2^exp, with distance bits from one to the next.
func powers(exp, distance, n int) []uint64 {
	var l []uint64
	for i := range n {
		l = append(l, math.Float64bits(math.Ldexp(1, exp+distance*i)))
	}
	return l
}

func value(x uint64) float64 { return math.Float64frombits(x) }

func hasValue(x uint64) bool { return x&^neg < api.Inf }

func isZero(x uint64) bool { return x&^neg == 0 }

// number returns the bits of f, with the only CNan that sums yield.
func number(f float64) uint64 {
	if math.IsNaN(f) {
		return api.Nan
	}
	return math.Float64bits(f)
}

// precise returns the value of x, with more bits than any sum, or any product of differences, can have.
func precise(x uint64) *big.Float { return new(big.Float).SetPrec(6000).SetFloat64(value(x)) }

func total(l []uint64) *big.Float {
	sum := precise(0)
	for _, x := range l {
		sum.Add(sum, precise(x))
	}
	return sum
}

// expectCheck is P11.1: one bit after another, each value takes those from its lowest one to its highest one.
func expectCheck(l []uint64) api.Errno {
	if len(l) > 60 {
		return api.ErrLarge
	}
	for _, x := range l {
		if !hasValue(x) {
			return api.ErrNone
		}
	}
	end := -2000
	for _, x := range l {
		v := precise(x)
		if v.Sign() == 0 {
			return api.ErrForm
		}
		high := v.MantExp(nil)
		if high-int(v.MinPrec()) < end {
			return api.ErrForm
		}
		end = high
	}
	return api.OK
}

// expectAdd is P11.2, by the sums of the machine.
func expectAdd(l []uint64, x uint64) ([]uint64, api.Errno) {
	if e := expectCheck(l); e != api.OK {
		return nil, e
	}
	if !hasValue(x) {
		return nil, api.ErrNone
	}
	q, parts := value(x), []uint64{}
	for _, y := range l {
		y := value(y)
		s := q + y
		if math.IsInf(s, 0) {
			return nil, api.ErrLarge
		}
		a := s - y
		b := s - a
		c, d := q-a, y-b
		parts = append(parts, number(c+d))
		q = s
	}
	return slices.DeleteFunc(append(parts, number(q)), isZero), api.OK
}

func expectJoin(a, b []uint64) ([]uint64, api.Errno) {
	for _, l := range [][]uint64{a, b} {
		if e := expectCheck(l); e != api.OK {
			return nil, e
		}
	}
	for _, x := range b {
		var e api.Errno
		if a, e = expectAdd(a, x); e != api.OK {
			return nil, e
		}
	}
	if len(a) > 60 {
		return nil, api.ErrLarge
	}
	return a, api.OK
}

func checkCheck(t *testing.T, l []uint64, want api.Errno) {
	t.Helper()
	if e := grow.Check(l); e != want {
		t.Errorf("Check(%#x) = %d, want %d", l, e, want)
	}
	if e := expectCheck(l); e != want {
		t.Errorf("the test expects %d of %#x, want %d", e, l, want)
	}
}

func checkAdd(t *testing.T, l []uint64, x uint64) {
	t.Helper()
	want, wantE := expectAdd(l, x)
	if got, e := grow.Add(l, x); !slices.Equal(got, want) || e != wantE {
		t.Errorf("Add(%#x, %#x) = %#x, %d, want %#x, %d", l, x, got, e, want, wantE)
	}
}

func checkJoin(t *testing.T, a, b []uint64) {
	t.Helper()
	want, wantE := expectJoin(a, b)
	if got, e := grow.Join(a, b); !slices.Equal(got, want) || e != wantE {
		t.Errorf("Join(%#x, %#x) = %#x, %d, want %#x, %d", a, b, got, e, want, wantE)
	}
}

// exactly returns the value of a Dyad.
func exactly(d api.Dyad) *big.Float {
	v := precise(0)
	for i := range d.Mant {
		v.SetMantExp(v, 32)
		v.Add(v, precise(0).SetUint64(uint64(d.Mant[len(d.Mant)-1-i])))
	}
	if d.Neg {
		v.Neg(v)
	}
	return v.SetMantExp(v, d.Exp)
}

// noise is a source of the same numbers in every run.
type noise uint64

func (x *noise) next() uint64 {
	*x ^= *x << 13
	*x ^= *x >> 7
	*x ^= *x << 17
	return uint64(*x)
}

func (x *noise) below(n int) int { return int(x.next() >> 20 % uint64(n)) }

func (x *noise) sign() uint64 { return x.next() >> 33 << 63 }

// number returns one with a value and an EXP from low to high.
func (x *noise) number(low, high int) uint64 {
	frac := []uint64{0, 1, 1<<52 - 1, x.next() >> 12, x.next() >> 12, x.next() >> 12 &^ (1<<26 - 1)}[x.below(6)]
	return x.sign() | uint64(low+x.below(high-low+1))<<52 | frac
}

// expansion returns one of at most n numbers with the lowest bit at 2^low or above, each with at most the given
// number of bits, and with at most gap bits between any two.
func (x *noise) expansion(low, n, bits, gap int) []uint64 {
	var l []uint64
	for at := max(low, -1074); len(l) < n; {
		k := 1 + x.below(bits)
		mant := x.next()>>(64-k) | 1<<(k-1)
		if at += x.below(gap + 1); at+k > 1024 {
			break
		}
		l = append(l, x.sign()|math.Float64bits(math.Ldexp(float64(mant), at)))
		at += k
	}
	return l
}

// samples returns numbers of every class and both signs.
func samples() []uint64 {
	var l []uint64
	for _, x := range []uint64{
		0, 1, 2, 3, 5, small - 1, small, smallest, smallest + 1, 2 << 52, least - 1, least, tiny, half, api.One - 1, api.One, api.One + 1,
		two, three, four, five, twoTo53, twoTo53 + 1, greatest, greatest + 1, overTie, threeTies, top, api.Most - 1, api.Most, api.Inf, api.Inf + 1, api.Nan,
	} {
		l = append(l, x, neg|x)
	}
	return l
}

// expansions returns some of every size and length.
func expansions() [][]uint64 {
	return [][]uint64{
		nil, {}, {1}, {neg | 3}, {api.One}, {minusOne}, {neg | three}, {api.Most}, {neg | threeTies}, {neg | top}, {1, 2}, {tiny, api.One}, {neg | tiny, api.One}, {tiny, minusOne},
		{api.One, two, four}, {api.One, neg | two, four}, {three, neg | four}, {small, smallest}, {1, minusOne, api.Most}, {overTie, neg | api.Most},
		powers(-1074, 1, 60), powers(0, 1, 60), powers(54, 2, 60), powers(-1074, 35, 60), powers(-1000, 54, 37), powers(964, 1, 60),
	}
}
