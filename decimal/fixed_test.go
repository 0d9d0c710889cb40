package decimal_test

import (
	"strconv"
	"strings"
	"testing"

	"ulpwright/api"
	"ulpwright/decimal"
)

func TestFixed(t *testing.T) {
	for _, c := range []struct {
		x      uint64
		places int
		want   [5]string // by MNear, MUp, MDown, MZero and MAway
		lost   bool
	}{
		// In the middle between two multiples.
		{bits(0.5), 0, [5]string{"0", "1", "0", "0", "1"}, true},
		{bits(1.5), 0, [5]string{"2", "2", "1", "1", "2"}, true},
		{bits(2.5), 0, [5]string{"2", "3", "2", "2", "3"}, true},
		{bits(-0.5), 0, [5]string{"-0", "-0", "-1", "-0", "-1"}, true},
		{bits(-2.5), 0, [5]string{"-2", "-2", "-3", "-2", "-3"}, true},
		{bits(0.75), 1, [5]string{"0.8", "0.8", "0.7", "0.7", "0.8"}, true},
		{bits(0.25), 1, [5]string{"0.2", "0.3", "0.2", "0.2", "0.3"}, true},
		{bits(-0.375), 2, [5]string{"-0.38", "-0.37", "-0.38", "-0.37", "-0.38"}, true},
		{bits(0.125), 2, [5]string{"0.12", "0.13", "0.12", "0.12", "0.13"}, true},
		{bits(9.5), 0, [5]string{"10", "10", "9", "9", "10"}, true},
		{bits(99.75), 1, [5]string{"99.8", "99.8", "99.7", "99.7", "99.8"}, true},
		// Just beside a middle.
		{bits(0.5) - 1, 0, [5]string{"0", "1", "0", "0", "0"}, true},
		{bits(0.5) + 1, 0, [5]string{"1", "1", "0", "0", "1"}, true},
		{bits(-2.5) + 1, 0, [5]string{"-3", "-2", "-3", "-2", "-3"}, true},
		{bits(-2.5) - 1, 0, [5]string{"-2", "-2", "-3", "-2", "-2"}, true},
		{bits(0.25) + 1, 1, [5]string{"0.3", "0.3", "0.2", "0.2", "0.3"}, true},
		{bits(0.15), 1, [5]string{"0.1", "0.2", "0.1", "0.1", "0.1"}, true},
		// With more digits before the point than the value has.
		{bits(0.999), 2, [5]string{"1.00", "1.00", "0.99", "0.99", "1.00"}, true},
		{bits(99.999), 2, [5]string{"100.00", "100.00", "99.99", "99.99", "100.00"}, true},
		{bits(-9.97), 1, [5]string{"-10.0", "-9.9", "-10.0", "-9.9", "-10.0"}, true},
		// Next to nothing.
		{1, 0, [5]string{"0", "1", "0", "0", "0"}, true},
		{neg | 1, 3, [5]string{"-0.000", "-0.000", "-0.001", "-0.000", "-0.000"}, true},
		{small, 5, [5]string{"0.00000", "0.00001", "0.00000", "0.00000", "0.00000"}, true},
		{bits(0.004), 2, [5]string{"0.00", "0.01", "0.00", "0.00", "0.00"}, true},
	} {
		for _, mode := range modes {
			checkFixed(t, c.x, c.places, mode, c.want[mode], c.lost)
		}
	}
}

// What has no more places than there are to be is not changed, by any mode.
func TestFixedOfItself(t *testing.T) {
	for _, c := range []struct {
		x      uint64
		places int
		want   string
	}{
		{0, 0, "0"},
		{0, 3, "0.000"},
		{neg, 0, "-0"},
		{neg, 1, "-0.0"},
		{0, 1100, "0." + strings.Repeat("0", 1100)},
		{api.One, 0, "1"},
		{bits(-1), 2, "-1.00"},
		{bits(0.75), 2, "0.75"},
		{bits(-0.75), 5, "-0.75000"},
		{bits(0.0625), 4, "0.0625"},
		{bits(120), 0, "120"},
		{bits(1e23), 1, "99999999999999991611392.0"},
		{bits(0.1), 55, "0.1000000000000000055511151231257827021181583404541015625"},
		{bits(0.1), 57, "0.100000000000000005551115123125782702118158340454101562500"},
	} {
		for _, mode := range modes {
			checkFixed(t, c.x, c.places, mode, c.want, false)
		}
	}
}

// Up to MaxPlaces, the longest values, and the last place that matters.
func TestFixedLimits(t *testing.T) {
	for _, x := range []uint64{1, 3, neg | 1, small, smallest, smallest + 1, api.One, api.Most, neg | api.Most, bits(0.1)} {
		for _, places := range []int{0, 1, 322, 323, 324, 325, 1072, 1073, 1074, 1075, 1099, 1100} {
			for _, mode := range modes {
				want, lost := expectFixed(x, places, mode)
				checkFixed(t, x, places, mode, want, lost)
			}
		}
	}
	s, lost, _ := decimal.Fixed(1, 1073, api.MNear)
	if u, e := decimal.Exact(1); len(s) != 1075 || !lost || len(u) != 1076 || e != api.OK {
		t.Errorf("%d and %d bytes, %t", len(s), len(u), lost)
	}
	s, lost, _ = decimal.Fixed(api.Most, 1100, api.MNear)
	if u, e := decimal.Exact(api.Most); s != u+"."+strings.Repeat("0", 1100) || lost || e != api.OK {
		t.Errorf("Fixed of the largest number = %q, %t", brief(s), lost)
	}
}

func TestFixedSamples(t *testing.T) {
	for i, x := range samples() {
		for _, places := range []int{0, 1, 2, 3, 7, 16, 25, i % 340} {
			for _, mode := range modes {
				want, lost := expectFixed(x, places, mode)
				checkFixed(t, x, places, mode, want, lost)
			}
		}
	}
	r := noise(0x9e3779b97f4a7c15)
	for exp := uint64(900); exp < 1200; exp++ {
		for places := range 25 {
			x, mode := r.number(exp), int(r.next()>>20%5)
			want, lost := expectFixed(x, places, mode)
			checkFixed(t, x, places, mode, want, lost)
		}
	}
}

// By MNear, the machine rounds in the same way.
func TestFixedMachine(t *testing.T) {
	r := noise(0xda942042e4dd58b5)
	for exp := range uint64(2047) {
		for range 5 {
			x, places := r.number(exp), int(r.next()>>20%400)
			s, _, e := decimal.Fixed(x, places, api.MNear)
			if want := strconv.FormatFloat(value(x), 'f', places, 64); s != want || e != api.OK {
				t.Errorf("Fixed(%#x, %d, MNear) = %q, %d, want %q", x, places, brief(s), e, brief(want))
			}
		}
	}
}
