package float_test

import (
	"math"
	"math/big"
	"testing"

	"ulpwright/api"
	"ulpwright/float"
)

const (
	fracMost = 1<<52 - 1
	firstNan = api.Inf + 1
	lastNan  = 1<<63 - 1
	tiniest  = 1            // the smallest positive number
	smallest = 1 << 52      // the smallest CNormal
	small    = smallest - 1 // the largest CSmall
)

// samples returns numbers of every class and sign, dense around the places where the rules change.
func samples() []uint64 {
	var l []uint64
	for exp := uint64(0); exp <= 2047; exp++ {
		for _, frac := range []uint64{0, 1, 2, 0x5555555555555, 1 << 51, fracMost - 1, fracMost} {
			x := exp<<52 | frac
			l = append(l, x, x|api.Sign)
		}
	}
	x := uint64(0x9e3779b97f4a7c15)
	for range 20000 {
		x ^= x << 13
		x ^= x >> 7
		x ^= x << 17
		l = append(l, x)
	}
	return l
}

func isNan(x uint64) bool { return math.IsNaN(math.Float64frombits(x)) }

func TestClass(t *testing.T) {
	for _, c := range []struct {
		x    uint64
		want int
	}{
		{0, api.CZero},
		{tiniest, api.CSmall},
		{1 << 51, api.CSmall},
		{small, api.CSmall},
		{smallest, api.CNormal},
		{smallest + 1, api.CNormal},
		{api.One, api.CNormal},
		{0x4005bf0a8b145769, api.CNormal},
		{api.Most &^ fracMost, api.CNormal},
		{api.Most, api.CNormal},
		{api.Inf, api.CInf},
		{firstNan, api.CNan},
		{api.Nan, api.CNan},
		{lastNan, api.CNan},
	} {
		for _, x := range []uint64{c.x, c.x | api.Sign} {
			if got := float.Class(x); got != c.want {
				t.Errorf("Class(%#x) = %d, want %d", x, got, c.want)
			}
		}
	}
}

func TestClassAgainstMath(t *testing.T) {
	for _, x := range samples() {
		f := math.Float64frombits(x)
		want := api.CNormal
		switch {
		case f == 0:
			want = api.CZero
		case math.IsNaN(f):
			want = api.CNan
		case math.IsInf(f, 0):
			want = api.CInf
		case math.Abs(f) < 0x1p-1022:
			want = api.CSmall
		}
		if got := float.Class(x); got != want {
			t.Fatalf("Class(%#x) = %d, want %d", x, got, want)
		}
	}
}

func TestParts(t *testing.T) {
	for _, c := range []struct {
		x    uint64
		neg  bool
		exp  int
		frac uint64
	}{
		{0, false, 0, 0},
		{api.Sign, true, 0, 0},
		{api.Sign | tiniest, true, 0, 1},
		{small, false, 0, fracMost},
		{smallest, false, 1, 0},
		{api.One, false, 1023, 0},
		{api.Sign | api.One | 5, true, 1023, 5},
		{api.Most, false, 2046, fracMost},
		{api.Inf, false, 2047, 0},
		{api.Sign | api.Inf, true, 2047, 0},
		{api.Nan, false, 2047, 1 << 51},
		{math.MaxUint64, true, 2047, fracMost},
	} {
		neg, exp, frac := float.Parts(c.x)
		if neg != c.neg || exp != c.exp || frac != c.frac {
			t.Errorf("Parts(%#x) = %t, %d, %#x", c.x, neg, exp, frac)
		}
		if x, e := float.Make(c.neg, c.exp, c.frac); x != c.x || e != api.OK {
			t.Errorf("Make(%t, %d, %#x) = %#x, %d", c.neg, c.exp, c.frac, x, e)
		}
	}
}

func TestMakeIsTheInverseOfParts(t *testing.T) {
	for _, x := range samples() {
		neg, exp, frac := float.Parts(x)
		if exp < 0 || exp > 2047 || frac > fracMost {
			t.Fatalf("Parts(%#x) = %t, %d, %#x", x, neg, exp, frac)
		}
		if y, e := float.Make(neg, exp, frac); y != x || e != api.OK {
			t.Fatalf("Make(Parts(%#x)) = %#x, %d", x, y, e)
		}
	}
}

func TestMakeErrors(t *testing.T) {
	for _, c := range []struct {
		exp  int
		frac uint64
	}{
		{-1, 0},
		{2048, 0},
		{-2048, 0},
		{4096, 0},
		{1 << 32, 0},
		{math.MinInt, 0},
		{math.MaxInt, 0},
		{0, fracMost + 1},
		{0, fracMost + 2},
		{2047, fracMost + 1},
		{1023, 1 << 53},
		{1023, 1 << 63},
		{1023, math.MaxUint64},
		{-1, fracMost + 1},
		{2048, math.MaxUint64},
	} {
		for _, neg := range []bool{false, true} {
			if x, e := float.Make(neg, c.exp, c.frac); x != 0 || e != api.ErrArg {
				t.Errorf("Make(%t, %d, %#x) = %#x, %d", neg, c.exp, c.frac, x, e)
			}
		}
	}
}

func TestNegAndAbs(t *testing.T) {
	for _, c := range []struct{ x, neg, abs uint64 }{
		{0, api.Sign, 0},
		{api.Sign, 0, 0},
		{api.One, 0xbff0000000000000, api.One},
		{0xbff0000000000000, api.One, api.One},
		{api.Inf, 0xfff0000000000000, api.Inf},
		{0xfff0000000000000, api.Inf, api.Inf},
		{api.Nan, 0xfff8000000000000, api.Nan},
		{0xfff8000000000005, 0x7ff8000000000005, 0x7ff8000000000005},
		{firstNan, 0xfff0000000000001, firstNan},
		{math.MaxUint64, lastNan, lastNan},
	} {
		if neg, abs := float.Neg(c.x), float.Abs(c.x); neg != c.neg || abs != c.abs {
			t.Errorf("%#x: Neg %#x, Abs %#x", c.x, neg, abs)
		}
	}
	for _, x := range samples() {
		if y := float.Neg(x); y-x != api.Sign || float.Neg(y) != x {
			t.Fatalf("Neg(%#x) = %#x", x, y)
		}
		if y := float.Abs(x); y != x%api.Sign {
			t.Fatalf("Abs(%#x) = %#x", x, y)
		}
	}
}

// exact returns the value that P1.2 gives to the parts of a number.
func exact(neg bool, exp int, frac uint64) *big.Float {
	if exp == 0 {
		exp = 1
	} else {
		frac += 1 << 52
	}
	v := new(big.Float).SetMantExp(new(big.Float).SetUint64(frac), exp-1075)
	if neg {
		v.Neg(v)
	}
	return v
}

func TestPartsGiveTheValue(t *testing.T) {
	for _, x := range samples() {
		f := math.Float64frombits(x)
		if math.IsInf(f, 0) || math.IsNaN(f) {
			continue
		}
		if v := exact(float.Parts(x)); v.Cmp(big.NewFloat(f)) != 0 {
			t.Fatalf("%#x: value %v, want %v", x, v, f)
		}
	}
}

func TestRank(t *testing.T) {
	for _, c := range []struct {
		x    uint64
		want int
	}{
		{0, 0},
		{api.Sign, 0},
		{tiniest, 1},
		{api.Sign | tiniest, -1},
		{api.Sign | 7, -7},
		{small, fracMost},
		{smallest, fracMost + 1},
		{api.One, 0x3ff0000000000000},
		{api.Sign | api.One, -0x3ff0000000000000},
		{api.Most, api.MaxRank - 1},
		{api.Sign | api.Most, 1 - api.MaxRank},
		{api.Inf, api.MaxRank},
		{api.Sign | api.Inf, -api.MaxRank},
	} {
		if n, e := float.Rank(c.x); n != c.want || e != api.OK {
			t.Errorf("Rank(%#x) = %d, %d, want %d", c.x, n, e, c.want)
		}
	}
	for _, x := range []uint64{firstNan, api.Nan, api.Nan | 5, lastNan} {
		for _, x := range []uint64{x, x | api.Sign} {
			if n, e := float.Rank(x); n != 0 || e != api.ErrNone {
				t.Errorf("Rank(%#x) = %d, %d", x, n, e)
			}
		}
	}
}

// Ranks are ordered as values are, with the infinities at the ends.
func TestRankFollowsTheValue(t *testing.T) {
	l := samples()
	for i, x := range l {
		y := l[(i*7919+1)%len(l)]
		m, e := float.Rank(x)
		n, d := float.Rank(y)
		if (e == api.ErrNone) != isNan(x) || (d == api.ErrNone) != isNan(y) {
			t.Fatalf("Rank(%#x) = %d, %d; Rank(%#x) = %d, %d", x, m, e, y, n, d)
		}
		if e != api.OK || d != api.OK {
			continue
		}
		f, g := math.Float64frombits(x), math.Float64frombits(y)
		if (m < n) != (f < g) || (m == n) != (f == g) {
			t.Fatalf("Rank(%#x) = %d, Rank(%#x) = %d", x, m, y, n)
		}
	}
}

func TestOf(t *testing.T) {
	for _, c := range []struct {
		rank int
		want uint64
	}{
		{0, 0},
		{1, tiniest},
		{-1, api.Sign | tiniest},
		{-7, api.Sign | 7},
		{fracMost, small},
		{0x3ff0000000000000, api.One},
		{-0x3ff0000000000000, api.Sign | api.One},
		{api.MaxRank - 1, api.Most},
		{api.MaxRank, api.Inf},
		{1 - api.MaxRank, api.Sign | api.Most},
		{-api.MaxRank, api.Sign | api.Inf},
	} {
		if x, e := float.Of(c.rank); x != c.want || e != api.OK {
			t.Errorf("Of(%d) = %#x, %d, want %#x", c.rank, x, e, c.want)
		}
	}
	for _, rank := range []int{api.MaxRank + 1, -api.MaxRank - 1, math.MaxInt, math.MinInt, math.MinInt + 1} {
		if x, e := float.Of(rank); x != 0 || e != api.ErrArg {
			t.Errorf("Of(%d) = %#x, %d", rank, x, e)
		}
	}
}

func TestOfIsTheInverseOfRank(t *testing.T) {
	for _, x := range samples() {
		n, e := float.Rank(x)
		if e != api.OK {
			continue
		}
		want := x
		if x == api.Sign {
			want = 0
		}
		if y, e := float.Of(n); y != want || e != api.OK {
			t.Fatalf("Of(Rank(%#x)) = %#x, %d", x, y, e)
		}
	}
}

func TestNextAndPrev(t *testing.T) {
	for _, c := range []struct{ x, next, prev uint64 }{
		{0, tiniest, api.Sign | tiniest},
		{api.Sign, tiniest, api.Sign | tiniest},
		{tiniest, 2, 0},
		{api.Sign | tiniest, api.Sign, api.Sign | 2},
		{2, 3, tiniest},
		{api.Sign | 2, api.Sign | tiniest, api.Sign | 3},
		{small, smallest, small - 1},
		{smallest, smallest + 1, small},
		{api.Sign | smallest, api.Sign | small, api.Sign | (smallest + 1)},
		{api.One, 0x3ff0000000000001, 0x3fefffffffffffff},
		{api.Sign | api.One, 0xbfefffffffffffff, 0xbff0000000000001},
		{api.Most, api.Inf, api.Most - 1},
		{api.Sign | api.Most, api.Sign | (api.Most - 1), api.Sign | api.Inf},
		{api.Inf, api.Inf, api.Most},
		{api.Sign | api.Inf, api.Sign | api.Most, api.Sign | api.Inf},
		{api.Nan, api.Nan, api.Nan},
		{api.Nan | 5, api.Nan, api.Nan},
		{api.Sign | api.Nan, api.Nan, api.Nan},
		{firstNan, api.Nan, api.Nan},
		{api.Sign | firstNan, api.Nan, api.Nan},
		{lastNan, api.Nan, api.Nan},
		{math.MaxUint64, api.Nan, api.Nan},
	} {
		if x := float.Next(c.x); x != c.next {
			t.Errorf("Next(%#x) = %#x, want %#x", c.x, x, c.next)
		}
		if x := float.Prev(c.x); x != c.prev {
			t.Errorf("Prev(%#x) = %#x, want %#x", c.x, x, c.prev)
		}
	}
}

func TestNextAndPrevMoveByOneRank(t *testing.T) {
	for _, x := range samples() {
		if isNan(x) {
			continue
		}
		rank, _ := float.Rank(x)
		up, e := float.Rank(float.Next(x))
		if e != api.OK || up != min(rank+1, api.MaxRank) {
			t.Fatalf("Next(%#x) has the Rank %d, %d", x, up, e)
		}
		down, e := float.Rank(float.Prev(x))
		if e != api.OK || down != max(rank-1, -api.MaxRank) {
			t.Fatalf("Prev(%#x) has the Rank %d, %d", x, down, e)
		}
		f := math.Float64frombits(x)
		if g := math.Nextafter(f, math.Inf(1)); g != math.Float64frombits(float.Next(x)) {
			t.Fatalf("Next(%#x) is not %v", x, g)
		}
		if g := math.Nextafter(f, math.Inf(-1)); g != math.Float64frombits(float.Prev(x)) {
			t.Fatalf("Prev(%#x) is not %v", x, g)
		}
	}
}

func TestUlp(t *testing.T) {
	for _, c := range []struct {
		x    uint64
		want int
	}{
		{0, -1074},
		{tiniest, -1074},
		{5, -1074},
		{small, -1074},
		{smallest, -1074},
		{2<<52 - 1, -1074},
		{2 << 52, -1073},
		{api.One - 1, -53},
		{api.One, -52},
		{api.One | fracMost, -52},
		{api.Most, 971},
	} {
		for _, x := range []uint64{c.x, c.x | api.Sign} {
			if k, e := float.Ulp(x); k != c.want || e != api.OK {
				t.Errorf("Ulp(%#x) = %d, %d, want %d", x, k, e, c.want)
			}
		}
	}
	for _, x := range []uint64{api.Inf, firstNan, api.Nan, api.Nan | 5, lastNan} {
		for _, x := range []uint64{x, x | api.Sign} {
			if k, e := float.Ulp(x); k != 0 || e != api.ErrNone {
				t.Errorf("Ulp(%#x) = %d, %d", x, k, e)
			}
		}
	}
}

func TestUlpIsTheStepOfFrac(t *testing.T) {
	for _, x := range samples() {
		neg, exp, frac := float.Parts(x)
		k, e := float.Ulp(x)
		if exp == 2047 {
			if k != 0 || e != api.ErrNone {
				t.Fatalf("Ulp(%#x) = %d, %d", x, k, e)
			}
			continue
		}
		if frac == fracMost {
			continue
		}
		step := new(big.Float).Sub(exact(neg, exp, frac+1), exact(neg, exp, frac))
		if e != api.OK || step.Abs(step).Cmp(new(big.Float).SetMantExp(big.NewFloat(1), k)) != 0 {
			t.Fatalf("Ulp(%#x) = %d, %d", x, k, e)
		}
	}
}

// outcome is what all the functions of the package return for one x and one int.
type outcome struct {
	class, exp, rank, ulp           int
	neg                             bool
	frac, made, inv, abs, of        uint64
	next, prev                      uint64
	makeErr, rankErr, ofErr, ulpErr api.Errno
}

func observe(x uint64, n int) (o outcome) {
	o.class = float.Class(x)
	o.neg, o.exp, o.frac = float.Parts(x)
	o.made, o.makeErr = float.Make(x%2 == 1, n, x)
	o.inv, o.abs = float.Neg(x), float.Abs(x)
	o.rank, o.rankErr = float.Rank(x)
	o.of, o.ofErr = float.Of(n)
	o.next, o.prev = float.Next(x), float.Prev(x)
	o.ulp, o.ulpErr = float.Ulp(x)
	return o
}

// P1 and P2: whatever the arguments are, the calls return, an error comes with zeros, and the result
// of a call does not depend on the calls before it.
func TestEveryArgument(t *testing.T) {
	ints := []int{math.MinInt, math.MinInt + 1, -api.MaxRank - 1, -api.MaxRank, -2048, -1, 0, 1, 2047, 2048, api.MaxRank, api.MaxRank + 1, math.MaxInt}
	l := samples()
	first := make([]outcome, len(l))
	for i, x := range l {
		first[i] = observe(x, ints[i%len(ints)])
	}
	for i := len(l) - 1; i >= 0; i-- {
		n := ints[i%len(ints)]
		o := observe(l[i], n)
		if o != first[i] {
			t.Fatalf("%#x, %d: %v, and before %v", l[i], n, o, first[i])
		}
		if o.makeErr != api.OK && o.made != 0 || o.rankErr != api.OK && o.rank != 0 ||
			o.ofErr != api.OK && o.of != 0 || o.ulpErr != api.OK && o.ulp != 0 {
			t.Fatalf("%#x, %d: an error with a result: %v", l[i], n, o)
		}
	}
}
