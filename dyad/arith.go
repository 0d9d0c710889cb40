package dyad

import (
	"cmp"

	"ulpwright/api"
	"ulpwright/nat"
)

// Cmp returns -1, 0 or 1 if c is less than, equal to or greater than d: P3.2.
func Cmp(c, d api.Dyad) (int, api.Errno) {
	if e := checkBoth(c, d); e != api.OK {
		return 0, e
	}
	switch {
	case c.Neg && d.Neg:
		return compareSizes(d, c), api.OK
	case c.Neg:
		return -1, api.OK
	case d.Neg:
		return 1, api.OK
	}
	return compareSizes(c, d), api.OK
}

// Add returns the sum: P3.2.
func Add(c, d api.Dyad) (api.Dyad, api.Errno) {
	if e := checkBoth(c, d); e != api.OK {
		return api.Dyad{}, e
	}
	return add(c, d)
}

// Sub returns the difference: P3.2.
func Sub(c, d api.Dyad) (api.Dyad, api.Errno) {
	if e := checkBoth(c, d); e != api.OK {
		return api.Dyad{}, e
	}
	d.Neg = !d.Neg && !isZero(d)
	return add(c, d)
}

// Mul returns the product: P3.2.
func Mul(c, d api.Dyad) (api.Dyad, api.Errno) {
	if e := checkBoth(c, d); e != api.OK {
		return api.Dyad{}, e
	}
	mant, _ := nat.Mul(c.Mant, d.Mant)
	return finish(c.Neg != d.Neg, mant, c.Exp+d.Exp)
}

func checkBoth(c, d api.Dyad) api.Errno {
	if e := Check(c); e != api.OK {
		return e
	}
	return Check(d)
}

// add is Add for valid Dyads.
func add(c, d api.Dyad) (api.Dyad, api.Errno) {
	switch {
	case isZero(c):
		return finish(d.Neg, d.Mant, d.Exp)
	case isZero(d):
		return finish(c.Neg, c.Mant, c.Exp)
	case c.Neg == d.Neg:
		return addSizes(c, d)
	case compareSizes(c, d) < 0:
		return subSizes(d, c)
	}
	return subSizes(c, d)
}

// compareSizes compares the absolute values of two valid Dyads.
func compareSizes(c, d api.Dyad) int {
	if isZero(c) || isZero(d) {
		return cmp.Compare(len(c.Mant), len(d.Mant))
	}
	if n := cmp.Compare(top(c), top(d)); n != 0 {
		return n
	}
	// With the same highest bit, neither one gets longer by the shift than the other one is.
	a, b := align(c, d, min(c.Exp, d.Exp))
	n, _ := nat.Cmp(a, b)
	return n
}

// top returns the number n for which the absolute value of d is at least 2^(n - 1) and less than 2^n.
func top(d api.Dyad) int {
	n, _ := nat.Bits(d.Mant)
	return n + d.Exp
}

// align returns the absolute values of two valid Dyads in units of 2^exp, rounded down. They may be longer
// than package nat accepts.
func align(c, d api.Dyad, exp int) ([]uint32, []uint32) {
	a, _, _ := nat.Shift(c.Mant, c.Exp-exp)
	b, _, _ := nat.Shift(d.Mant, d.Exp-exp)
	return a, b
}

// addSizes and subSizes count in units of 2^(exp + 1), where exp is the smaller Exp of both: in units of
// 2^exp, a sum or a minuend may have a limb more than package nat accepts although the result has not.
// As mantissas are odd, the greater unit costs a number a half if exp is its Exp, and otherwise nothing.
// What has too many limbs for package nat even then leads to a result that is too large.

// addSizes returns the sum of two numbers with the same sign, neither of them 0.
func addSizes(c, d api.Dyad) (api.Dyad, api.Errno) {
	exp := min(c.Exp, d.Exp)
	a, b := align(c, d, exp+1)
	sum, e := nat.Add(a, b)
	if e != api.OK {
		return api.Dyad{}, e
	}
	if c.Exp == d.Exp {
		// Two halves are missing. There is room for them: both numbers are a bit shorter than before.
		sum, _ = nat.Add(sum, nat.Of(1))
		return finish(c.Neg, sum, exp+1)
	}
	return finishHalf(c.Neg, sum, exp)
}

// subSizes returns the sum of two numbers with different signs, neither of them 0, where the absolute
// value of c is not less than that of d.
func subSizes(c, d api.Dyad) (api.Dyad, api.Errno) {
	exp := min(c.Exp, d.Exp)
	a, b := align(c, d, exp+1)
	rest, e := nat.Sub(a, b)
	if e != api.OK {
		return api.Dyad{}, e
	}
	if c.Exp == d.Exp {
		return finish(c.Neg, rest, exp+1)
	}
	if c.Exp > d.Exp {
		// The half that d lost has to be subtracted, but finishHalf adds one.
		rest, _ = nat.Sub(rest, nat.Of(1))
	}
	return finishHalf(c.Neg, rest, exp)
}

// finishHalf is finish for n + 1/2, in units of 2^(exp + 1).
func finishHalf(neg bool, n []uint32, exp int) (api.Dyad, api.Errno) {
	twice, _, e := nat.Shift(n, 1)
	if e != api.OK {
		return api.Dyad{}, e
	}
	mant, e := nat.Add(twice, nat.Of(1))
	if e != api.OK {
		return api.Dyad{}, e
	}
	return finish(neg, mant, exp)
}
