package decimal_test

import (
	"math"
	"testing"

	"ulpwright/api"
	"ulpwright/decimal"
)

// checkError checks that a call returns an error and zero values.
func checkError(t *testing.T, f rounding, x uint64, n, mode int, want api.Errno) {
	t.Helper()
	if s, lost, e := f.call(x, n, mode); s != "" || lost || e != want {
		t.Errorf("%s(%#x, %d, %d) = %q, %t, %d, want %d", f.name, x, n, mode, brief(s), lost, e, want)
	}
}

// That there is no value is an error before all others.
func TestErrorsOfNothing(t *testing.T) {
	for _, f := range roundings() {
		for _, x := range nothings {
			for _, n := range []int{math.MinInt, -1, f.least, 5, f.most, f.most + 1, math.MaxInt} {
				for mode := -1; mode <= 5; mode++ {
					checkError(t, f, x, n, mode, api.ErrNone)
				}
			}
		}
	}
}

// Values with and without something to be rounded.
var values = []uint64{0, neg, api.One, bits(-0.75), bits(0.1), bits(9.5), 1, neg | small, api.Most}

func TestErrorsOfModes(t *testing.T) {
	for _, f := range roundings() {
		for _, x := range values {
			for _, n := range []int{f.least - 1, f.least, 2, f.most, f.most + 1} {
				for _, mode := range unknown {
					checkError(t, f, x, n, mode, api.ErrArg)
				}
			}
		}
	}
}

// All numbers of places and of digits within the bounds are accepted, and none beyond them.
func TestErrorsOfBounds(t *testing.T) {
	for _, f := range roundings() {
		for _, x := range values {
			for _, mode := range modes {
				for _, n := range []int{math.MinInt, math.MinInt + 1, -1 << 32, -1100, -2, -1, f.least - 1, f.most + 1, f.most + 2, 20000, 1 << 32, math.MaxInt - 1, math.MaxInt} {
					checkError(t, f, x, n, mode, api.ErrArg)
				}
				for _, n := range []int{f.least, f.least + 1, f.most - 1, f.most} {
					if s, _, e := f.call(x, n, mode); s == "" || e != api.OK {
						t.Errorf("%s(%#x, %d, %d) = %q, %d", f.name, x, n, mode, brief(s), e)
					}
				}
			}
		}
	}
}

// The result of MUp is never less than the value, that of MDown never greater, and that of MZero never farther from 0;
// with a number as a result that differs from the value, the second result says so.
func TestDirections(t *testing.T) {
	for i, x := range samples() {
		v := precise(x)
		for _, f := range roundings() {
			for _, mode := range modes {
				s, lost, _ := f.call(x, 1+i%20, mode)
				order := number(t, s).Cmp(v)
				if lost != (order != 0) {
					t.Errorf("%s(%#x, %d, %d) = %q, %t", f.name, x, 1+i%20, mode, brief(s), lost)
				}
				if mode == api.MUp && order < 0 || mode == api.MDown && order > 0 || mode == api.MZero && order*v.Sign() > 0 {
					t.Errorf("%s(%#x, %d, %d) = %q: in the wrong direction", f.name, x, 1+i%20, mode, brief(s))
				}
			}
		}
	}
}

// P2: a result depends only on the arguments.
func TestCallsTwice(t *testing.T) {
	type results struct {
		exact, fixed, sci string
		lf, ls            bool
		ee, ef, es        api.Errno
	}
	call := func(x uint64, n, mode int) (c results) {
		c.exact, c.ee = decimal.Exact(x)
		c.fixed, c.lf, c.ef = decimal.Fixed(x, n, mode)
		c.sci, c.ls, c.es = decimal.Sci(x, n, mode)
		return c
	}
	numbers := append(append([]uint64{}, values...), nothings...)
	var first []results
	for _, x := range numbers {
		for n := -1; n <= 20; n++ {
			first = append(first, call(x, n, n%6))
		}
	}
	i := len(first)
	for j := range numbers {
		for n := 20; n >= -1; n-- {
			i--
			if x := numbers[len(numbers)-1-j]; call(x, n, n%6) != first[i] {
				t.Errorf("%#x, %d, %d: another result for the second time", x, n, n%6)
			}
		}
	}
}
