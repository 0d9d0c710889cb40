package decimal_test

import (
	"fmt"
	"math"
	"math/big"
	"strconv"
	"strings"
	"testing"

	"ulpwright/api"
	"ulpwright/decimal"
)

const (
	neg      = api.Sign
	small    = 1<<52 - 1 // the largest CSmall
	smallest = 1 << 52   // the smallest CNormal
	twoTo53  = 0x4340000000000000
)

var (
	modes    = []int{api.MNear, api.MUp, api.MDown, api.MZero, api.MAway}
	unknown  = []int{-1, 5, 6, 7, 1 << 32, math.MinInt, math.MaxInt}
	nothings = []uint64{ // numbers without a value
		api.Inf, neg | api.Inf, api.Nan, api.Inf + 1, api.Sign - 1, api.Nan | 7, neg | api.Nan, neg | api.Inf + 1, math.MaxUint64,
	}
)

func bits(f float64) uint64 { return math.Float64bits(f) }

func value(x uint64) float64 { return math.Float64frombits(x) }

func precise(x uint64) *big.Rat { return new(big.Rat).SetFloat64(value(x)) }

// power returns 10^n.
func power(n int) *big.Int { return new(big.Int).Exp(big.NewInt(10), big.NewInt(int64(n)), nil) }

// number returns the one that a decimal string says, exactly.
func number(t *testing.T, s string) *big.Rat {
	t.Helper()
	v, ok := new(big.Rat).SetString(s)
	if !ok {
		t.Fatalf("%.60q is no number", s)
	}
	return v
}

// brief keeps the report of a failure readable.
func brief(s string) string {
	if len(s) > 70 {
		return s[:35] + "..." + s[len(s)-30:]
	}
	return s
}

// pick is P4.1: whether a value of the given sign is rounded away from 0, where near compares its distance from the
// neighbour toward 0 with that from the other one, and even tells whether the first one is even.
func pick(negative bool, near int, even bool, mode int) bool {
	switch mode {
	case api.MUp:
		return !negative
	case api.MDown:
		return negative
	case api.MZero:
		return false
	}
	return near > 0 || near == 0 && (mode == api.MAway || !even)
}

// units returns the absolute value of x, rounded to a multiple of 10^-places, in these units, and whether it differs
// from the value.
func units(x uint64, places, mode int) (*big.Int, bool) {
	v := new(big.Rat).Abs(precise(x))
	v.Mul(v, new(big.Rat).SetFrac(power(max(places, 0)), power(max(-places, 0))))
	n, down := new(big.Int).QuoRem(v.Num(), v.Denom(), new(big.Int))
	up := new(big.Int).Sub(v.Denom(), down)
	lost := down.Sign() > 0
	if lost && pick(x >= neg, down.Cmp(up), n.Bit(0) == 0, mode) {
		n.Add(n, big.NewInt(1))
	}
	return n, lost
}

func sign(x uint64) string {
	if x >= neg {
		return "-"
	}
	return ""
}

// expectFixed is P12.2 of Fixed.
func expectFixed(x uint64, places, mode int) (string, bool) {
	n, lost := units(x, places, mode)
	whole, part := n.QuoRem(n, power(places), new(big.Int))
	s := sign(x) + whole.String()
	if places > 0 {
		s += fmt.Sprintf(".%0*d", places, part)
	}
	return s, lost
}

// expectSci is P12.2 of Sci. With 800 digits, the machine's text of any value is exact, and so its exponent is that of
// the value.
func expectSci(x uint64, digits, mode int) (string, bool) {
	_, after, _ := strings.Cut(strconv.FormatFloat(value(x), 'e', 799, 64), "e")
	exp, _ := strconv.Atoi(after)
	n, lost := units(x, digits-1-exp, mode)
	if n.Cmp(power(digits)) == 0 {
		n, exp = power(digits-1), exp+1
	}
	s := fmt.Sprintf("%0*d", digits, n)
	if digits > 1 {
		s = s[:1] + "." + s[1:]
	}
	return fmt.Sprintf("%s%se%+03d", sign(x), s, exp), lost
}

func checkExact(t *testing.T, x uint64, want string) {
	t.Helper()
	if s, e := decimal.Exact(x); s != want || e != api.OK {
		t.Errorf("Exact(%#x) = %q, %d, want %q", x, brief(s), e, brief(want))
	}
}

func checkFixed(t *testing.T, x uint64, places, mode int, want string, wantLost bool) {
	t.Helper()
	if s, lost, e := decimal.Fixed(x, places, mode); s != want || lost != wantLost || e != api.OK {
		t.Errorf("Fixed(%#x, %d, %d) = %q, %t, %d, want %q, %t", x, places, mode, brief(s), lost, e, brief(want), wantLost)
	}
}

func checkSci(t *testing.T, x uint64, digits, mode int, want string, wantLost bool) {
	t.Helper()
	if s, lost, e := decimal.Sci(x, digits, mode); s != want || lost != wantLost || e != api.OK {
		t.Errorf("Sci(%#x, %d, %d) = %q, %t, %d, want %q, %t", x, digits, mode, brief(s), lost, e, brief(want), wantLost)
	}
}

// rounding is Fixed or Sci, with the bounds of its second argument.
type rounding struct {
	name        string
	call        func(x uint64, n, mode int) (string, bool, api.Errno)
	least, most int
}

func roundings() []rounding {
	return []rounding{{"Fixed", decimal.Fixed, 0, 1100}, {"Sci", decimal.Sci, 1, 800}}
}

// noise is a source of the same numbers in every run.
type noise uint64

func (x *noise) next() uint64 {
	*x ^= *x << 13
	*x ^= *x >> 7
	*x ^= *x << 17
	return uint64(*x)
}

// number returns one with the EXP exp and either sign, with many or few bits of 1.
func (x *noise) number(exp uint64) uint64 {
	frac := x.next() >> 12
	switch x.next() >> 40 % 3 {
	case 0:
		frac &^= 1<<48 - 1
	case 1:
		frac &^= 1<<(x.next()>>20%53) - 1
	}
	return x.next()<<63 | exp<<52 | frac
}

// samples returns values of every class and both signs: those at which something changes in bits or in decimal, those
// next to them, and those in the middle between decimal numbers of few digits.
func samples() []uint64 {
	sizes := []uint64{0, 1, 2, 3, 5, small - 1, small, smallest, smallest + 1, 2<<52 - 1, 2 << 52, api.One - 1, api.One, api.One + 1, twoTo53 - 1, twoTo53, twoTo53 + 1, api.Most - 1, api.Most}
	for n := -323; n <= 308; n++ {
		x := bits(number10(n))
		sizes = append(sizes, x, x-1, x+1)
	}
	for _, n := range []float64{5, 15, 25, 35, 45, 85, 95, 99, 100, 105, 115, 995, 998, 999, 1000, 1005, 9985, 9995, 12345} {
		for _, scale := range []float64{1, 0.5, 0.25, 0.125, 1.0 / 1024, 10, 1e10} {
			x := bits(n * scale)
			sizes = append(sizes, x-1, x, x+1)
		}
	}
	var l []uint64
	for _, x := range sizes {
		l = append(l, x, neg|x)
	}
	return l
}

// number10 returns the number nearest to 10^n.
func number10(n int) float64 {
	f, _ := strconv.ParseFloat("1e"+strconv.Itoa(n), 64)
	return f
}
