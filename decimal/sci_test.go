package decimal_test

import (
	"strconv"
	"strings"
	"testing"

	"ulpwright/api"
	"ulpwright/decimal"
)

func TestSci(t *testing.T) {
	for _, c := range []struct {
		x      uint64
		digits int
		want   [5]string // by MNear, MUp, MDown, MZero and MAway
		lost   bool
	}{
		// In the middle between two numbers of so many digits, with digits after the point and without.
		{bits(2.5), 1, [5]string{"2e+00", "3e+00", "2e+00", "2e+00", "3e+00"}, true},
		{bits(-2.5), 1, [5]string{"-2e+00", "-2e+00", "-3e+00", "-2e+00", "-3e+00"}, true},
		{bits(1.25), 2, [5]string{"1.2e+00", "1.3e+00", "1.2e+00", "1.2e+00", "1.3e+00"}, true},
		{bits(1.375), 3, [5]string{"1.38e+00", "1.38e+00", "1.37e+00", "1.37e+00", "1.38e+00"}, true},
		{bits(0.03125), 3, [5]string{"3.12e-02", "3.13e-02", "3.12e-02", "3.12e-02", "3.13e-02"}, true},
		{bits(25), 1, [5]string{"2e+01", "3e+01", "2e+01", "2e+01", "3e+01"}, true},
		{bits(-35), 1, [5]string{"-4e+01", "-3e+01", "-4e+01", "-3e+01", "-4e+01"}, true},
		{bits(1050), 2, [5]string{"1.0e+03", "1.1e+03", "1.0e+03", "1.0e+03", "1.1e+03"}, true},
		{bits(1150), 2, [5]string{"1.2e+03", "1.2e+03", "1.1e+03", "1.1e+03", "1.2e+03"}, true},
		// Just beside a middle.
		{bits(25) + 1, 1, [5]string{"3e+01", "3e+01", "2e+01", "2e+01", "3e+01"}, true},
		{bits(25) - 1, 1, [5]string{"2e+01", "3e+01", "2e+01", "2e+01", "2e+01"}, true},
		{bits(-35) - 1, 1, [5]string{"-3e+01", "-3e+01", "-4e+01", "-3e+01", "-3e+01"}, true},
		{bits(1050.0009765625), 2, [5]string{"1.1e+03", "1.1e+03", "1.0e+03", "1.0e+03", "1.1e+03"}, true},
		{bits(25.5), 1, [5]string{"3e+01", "3e+01", "2e+01", "2e+01", "3e+01"}, true},
		{bits(20) + 1, 1, [5]string{"2e+01", "3e+01", "2e+01", "2e+01", "2e+01"}, true},
		{bits(30) - 1, 1, [5]string{"3e+01", "3e+01", "2e+01", "2e+01", "3e+01"}, true},
		// To the next power of ten.
		{bits(9.5), 1, [5]string{"1e+01", "1e+01", "9e+00", "9e+00", "1e+01"}, true},
		{bits(8.5), 1, [5]string{"8e+00", "9e+00", "8e+00", "8e+00", "9e+00"}, true},
		{bits(-95), 1, [5]string{"-1e+02", "-9e+01", "-1e+02", "-9e+01", "-1e+02"}, true},
		{bits(10) - 1, 3, [5]string{"1.00e+01", "1.00e+01", "9.99e+00", "9.99e+00", "1.00e+01"}, true},
		{bits(0.996), 2, [5]string{"1.0e+00", "1.0e+00", "9.9e-01", "9.9e-01", "1.0e+00"}, true},
		{bits(1e23), 16, [5]string{"9.999999999999999e+22", "1.000000000000000e+23", "9.999999999999999e+22", "9.999999999999999e+22", "9.999999999999999e+22"}, true},
		{bits(1e23), 15, [5]string{"1.00000000000000e+23", "1.00000000000000e+23", "9.99999999999999e+22", "9.99999999999999e+22", "1.00000000000000e+23"}, true},
		{bits(1e10) - 1, 4, [5]string{"1.000e+10", "1.000e+10", "9.999e+09", "9.999e+09", "1.000e+10"}, true},
		{bits(1e100) - 1, 2, [5]string{"1.0e+100", "1.0e+100", "9.9e+99", "9.9e+99", "1.0e+100"}, true},
		{bits(1e-9) - 1, 2, [5]string{"1.0e-09", "1.0e-09", "9.9e-10", "9.9e-10", "1.0e-09"}, true},
		{bits(1e-99) - 1, 1, [5]string{"1e-99", "1e-99", "9e-100", "9e-100", "1e-99"}, true},
		// The smallest and the largest numbers.
		{1, 1, [5]string{"5e-324", "5e-324", "4e-324", "4e-324", "5e-324"}, true},
		{neg | 1, 3, [5]string{"-4.94e-324", "-4.94e-324", "-4.95e-324", "-4.94e-324", "-4.94e-324"}, true},
		{api.Most, 1, [5]string{"2e+308", "2e+308", "1e+308", "1e+308", "2e+308"}, true},
		{neg | api.Most, 5, [5]string{"-1.7977e+308", "-1.7976e+308", "-1.7977e+308", "-1.7976e+308", "-1.7977e+308"}, true},
		{bits(0.1), 17, [5]string{"1.0000000000000001e-01", "1.0000000000000001e-01", "1.0000000000000000e-01", "1.0000000000000000e-01", "1.0000000000000001e-01"}, true},
	} {
		for _, mode := range modes {
			checkSci(t, c.x, c.digits, mode, c.want[mode], c.lost)
		}
	}
}

// What has no more digits than there are to be is not changed, by any mode.
func TestSciOfItself(t *testing.T) {
	for _, c := range []struct {
		x      uint64
		digits int
		want   string
	}{
		{0, 1, "0e+00"},
		{0, 3, "0.00e+00"},
		{neg, 1, "-0e+00"},
		{neg, 2, "-0.0e+00"},
		{0, 800, "0." + strings.Repeat("0", 799) + "e+00"},
		{api.One, 1, "1e+00"},
		{bits(-1), 4, "-1.000e+00"},
		{bits(7), 1, "7e+00"},
		{bits(10), 1, "1e+01"},
		{bits(20), 1, "2e+01"},
		{bits(-1200), 2, "-1.2e+03"},
		{bits(0.5), 1, "5e-01"},
		{bits(-0.75), 3, "-7.50e-01"},
		{bits(0.0625), 3, "6.25e-02"},
		{bits(1e9), 1, "1e+09"},
		{bits(1e22), 1, "1e+22"},
		{bits(1e22), 25, "1.000000000000000000000000e+22"},
		{bits(1e23), 23, "9.9999999999999991611392e+22"},
		{twoTo53 + 1, 16, "9.007199254740994e+15"},
		{bits(0.1), 55, "1.000000000000000055511151231257827021181583404541015625e-01"},
	} {
		for _, mode := range modes {
			checkSci(t, c.x, c.digits, mode, c.want, false)
		}
	}
}

// No value has more than 767 digits: then the rest are zeros.
func TestSciLimits(t *testing.T) {
	for _, x := range []uint64{1, 3, neg | 1, small, smallest, smallest + 1, 2<<52 - 1, api.One, api.Most, neg | api.Most, bits(0.1), bits(1e23)} {
		for _, digits := range []int{1, 2, 17, 308, 309, 310, 750, 751, 752, 766, 767, 768, 799, 800} {
			for _, mode := range modes {
				want, lost := expectSci(x, digits, mode)
				checkSci(t, x, digits, mode, want, lost)
			}
		}
	}
	if s, lost, e := decimal.Sci(2<<52-1, 766, api.MZero); !lost || e != api.OK {
		t.Errorf("766 digits: %q, %t, %d", brief(s), lost, e)
	}
	if s, lost, e := decimal.Sci(2<<52-1, 767, api.MZero); lost || e != api.OK || !strings.HasSuffix(s, "5e-308") {
		t.Errorf("767 digits: %q, %t, %d", brief(s), lost, e)
	}
}

func TestSciSamples(t *testing.T) {
	for i, x := range samples() {
		for _, digits := range []int{1, 2, 3, 4, 15, 16, 17, 18, 1 + i%100} {
			for _, mode := range modes {
				want, lost := expectSci(x, digits, mode)
				checkSci(t, x, digits, mode, want, lost)
			}
		}
	}
	r := noise(0x9e3779b97f4a7c15)
	for exp := range uint64(2047) {
		for digits := 1; digits <= 21; digits += 2 {
			x, mode := r.number(exp), int(r.next()>>20%5)
			want, lost := expectSci(x, digits, mode)
			checkSci(t, x, digits, mode, want, lost)
		}
	}
}

// By MNear, the machine rounds in the same way.
func TestSciMachine(t *testing.T) {
	r := noise(0xda942042e4dd58b5)
	for exp := range uint64(2047) {
		for range 5 {
			x, digits := r.number(exp), int(1+r.next()>>20%40)
			s, _, e := decimal.Sci(x, digits, api.MNear)
			if want := strconv.FormatFloat(value(x), 'e', digits-1, 64); s != want || e != api.OK {
				t.Errorf("Sci(%#x, %d, MNear) = %q, %d, want %q", x, digits, brief(s), e, brief(want))
			}
		}
	}
}
