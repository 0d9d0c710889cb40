package decimal_test

import (
	"math/big"
	"strconv"
	"strings"
	"testing"

	"ulpwright/api"
	"ulpwright/decimal"
)

func TestExact(t *testing.T) {
	for _, c := range []struct {
		x    uint64
		want string
	}{
		{0, "0"},
		{neg, "-0"},
		{api.One, "1"},
		{neg | api.One, "-1"},
		{bits(10), "10"},
		{bits(-1200), "-1200"},
		{bits(1e22), "10000000000000000000000"},
		{bits(1e23), "99999999999999991611392"},
		{bits(0.5), "0.5"},
		{bits(-0.75), "-0.75"},
		{bits(0.0625), "0.0625"},
		{bits(-2.5), "-2.5"},
		{bits(1234.5), "1234.5"},
		{bits(100.03125), "100.03125"},
		{bits(0.1), "0.1000000000000000055511151231257827021181583404541015625"},
		{bits(-0.3), "-0.299999999999999988897769753748434595763683319091796875"},
		{api.One + 1, "1.0000000000000002220446049250313080847263336181640625"},
		{api.One - 1, "0.99999999999999988897769753748434595763683319091796875"},
		{twoTo53 - 1, "9007199254740991"},
		{twoTo53 - 1<<52 - 1, "4503599627370495.5"},
		{twoTo53 + 1, "9007199254740994"},
		{bits(1 << 62), "4611686018427387904"},
	} {
		checkExact(t, c.x, c.want)
	}
}

// The integers with the most digits: api.Most is 2^1024 less 2^971.
func TestExactLarge(t *testing.T) {
	most := new(big.Int).Lsh(big.NewInt(1<<53-1), 971).String()
	checkExact(t, api.Most, most)
	checkExact(t, neg|api.Most, "-"+most)
	if !strings.HasPrefix(most, "17976931348623157081452742373170435679807056752584") || len(most) != 309 {
		t.Errorf("the test expects %q", brief(most))
	}
}

// The numbers with the most digits after the point: 2^-1074 is 5^1074 times 10^-1074.
func TestExactSmall(t *testing.T) {
	for _, x := range []uint64{1, 3, small, smallest + 1, 2<<52 - 1, neg | 1, neg | small} {
		s, e := decimal.Exact(x)
		if len(s) != len(sign(x)+"0.")+1074 || e != api.OK || number(t, s).Cmp(precise(x)) != 0 {
			t.Errorf("Exact(%#x) = %q with %d bytes, %d", x, brief(s), len(s), e)
		}
	}
	s, _ := decimal.Exact(1)
	if !strings.HasPrefix(s, "0."+strings.Repeat("0", 323)+"4940656458412465441765687928682213723650598") || !strings.HasSuffix(s, "447265625") {
		t.Errorf("Exact of the smallest positive number = %q", brief(s))
	}
}

// checkForm checks that a result is the value, in the only form that P12.1 permits.
func checkForm(t *testing.T, x uint64) {
	t.Helper()
	s, e := decimal.Exact(x)
	if e != api.OK || number(t, s).Cmp(precise(x)) != 0 {
		t.Errorf("Exact(%#x) = %q, %d: not the value", x, brief(s), e)
	}
	digits, negative := strings.CutPrefix(s, "-")
	whole, part, point := strings.Cut(digits, ".")
	if negative != (x >= neg) || strings.Trim(whole+part, "0123456789") != "" {
		t.Errorf("Exact(%#x) = %q: not in decimal, or with a wrong sign", x, brief(s))
	}
	if whole == "" || len(whole) > 1 && whole[0] == '0' {
		t.Errorf("Exact(%#x) = %q: zeros before the integer part, or none", x, brief(s))
	}
	if point && (part == "" || strings.HasSuffix(part, "0")) {
		t.Errorf("Exact(%#x) = %q: more than is necessary after the point", x, brief(s))
	}
}

func TestExactSamples(t *testing.T) {
	for _, x := range samples() {
		checkForm(t, x)
	}
	r := noise(0x9e3779b97f4a7c15)
	for exp := range uint64(2047) {
		checkForm(t, exp<<52)
		for range 4 {
			checkForm(t, r.number(exp))
		}
	}
}

// What Exact returns is read as the same number by the machine.
func TestExactBack(t *testing.T) {
	r := noise(0x2545f4914f6cdd1d)
	for exp := range uint64(2047) {
		x := r.number(exp)
		s, _ := decimal.Exact(x)
		if f, err := strconv.ParseFloat(s, 64); bits(f) != x || err != nil {
			t.Errorf("Exact(%#x) = %q, read as %#x, %v", x, brief(s), bits(f), err)
		}
	}
}

func TestExactOfNothing(t *testing.T) {
	for _, x := range nothings {
		if s, e := decimal.Exact(x); s != "" || e != api.ErrNone {
			t.Errorf("Exact(%#x) = %q, %d, want ErrNone", x, s, e)
		}
	}
}
