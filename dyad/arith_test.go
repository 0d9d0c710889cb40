package dyad_test

import (
	"cmp"
	"math/big"
	"testing"

	"ulpwright/api"
	"ulpwright/dyad"
)

// check compares all functions of two Dyads with integers of any size.
func check(t *testing.T, c, d api.Dyad) {
	t.Helper()
	exp := min(c.Exp, d.Exp)
	v, w := in(exp, c), in(exp, d)
	if n, e := dyad.Cmp(c, d); n != v.Cmp(w) || e != api.OK {
		t.Errorf("Cmp(%s, %s) = %d, %d", brief(c), brief(d), n, e)
	}
	for _, f := range []struct {
		name string
		run  func(c, d api.Dyad) (api.Dyad, api.Errno)
		v    *big.Int
		exp  int
	}{
		{"Add", dyad.Add, new(big.Int).Add(v, w), exp},
		{"Sub", dyad.Sub, new(big.Int).Sub(v, w), exp},
		{"Mul", dyad.Mul, new(big.Int).Mul(signed(c), signed(d)), c.Exp + d.Exp},
	} {
		want, wantE := expect(f.v, f.exp)
		if got, e := f.run(c, d); !equal(got, want) || e != wantE {
			t.Errorf("%s(%s, %s) = %s, %d, want %s, %d", f.name, brief(c), brief(d), brief(got), e, brief(want), wantE)
		}
	}
}

func negated(d api.Dyad) api.Dyad {
	d.Neg = !d.Neg && len(d.Mant) > 0
	return d
}

// checkSigns is check with all signs, in both orders.
func checkSigns(t *testing.T, c, d api.Dyad) {
	t.Helper()
	for _, c := range []api.Dyad{c, negated(c)} {
		for _, d := range []api.Dyad{d, negated(d)} {
			check(t, c, d)
			check(t, d, c)
		}
	}
}

func TestAgainstBig(t *testing.T) {
	l := samples()
	for _, c := range l {
		for _, d := range l {
			check(t, c, d)
		}
	}
}

// Mantissas of one limb, with carries and borrows at all distances.
func TestShortMantissas(t *testing.T) {
	l := []uint32{1, 3, 5, 7, 9, 15, 0x55555555, 0x7fffffff, 0x80000001, 0xfffffffd, 0xffffffff}
	for _, a := range l {
		for _, b := range l {
			for k := range 70 {
				checkSigns(t, of(false, 3, a), of(false, 3-k, b))
			}
		}
	}
}

// Mantissas of nearly as many bits as there may be, where a sum or a difference of longer numbers may
// still fit.
func TestLongMantissas(t *testing.T) {
	x := noise(0x853c49e6748fea9b)
	long := [][]uint32{full(400), full(399), ends(1, 1<<31, 400), ends(1, 1<<30, 400), ends(3, 1, 400), ends(1<<32-1, 1<<31, 400), x.mant(400)}
	for _, m := range long {
		for _, n := range append(long, []uint32{1}, []uint32{3}, []uint32{1<<32 - 1}) {
			size := toBig(m).BitLen() - toBig(n).BitLen()
			for _, k := range []int{0, 1, 2, size - 2, size - 1, size, size + 1, size + 2, 12767, 12768, 12799, 12800, 12801, 12802} {
				checkSigns(t, of(false, -5000, m...), of(false, k-5000, n...))
			}
		}
	}
}

func TestCmp(t *testing.T) {
	// In increasing order, beside the negated ones.
	l := []api.Dyad{
		{}, of(false, -10000, 1), of(false, -10000, 3), of(false, -9998, 1), of(false, -32, 0xffffffff), of(false, 0, 1),
		of(false, -31, 0x80000001), of(false, -1, 3), of(false, 1, 1), of(false, 0, 3), of(false, -10000, full(400)...),
		of(false, 2800, 1), of(false, 9999, 3), of(false, 10000, 3), of(false, 10000, full(400)...),
	}
	for i, c := range l {
		for j, d := range l {
			for _, w := range []struct {
				c, d api.Dyad
				want int
			}{
				{c, d, cmp.Compare(i, j)},
				{negated(c), negated(d), cmp.Compare(j, i)},
				{c, negated(d), cmp.Compare(i+j, 0)},
				{negated(c), d, cmp.Compare(0, i+j)},
			} {
				if n, e := dyad.Cmp(w.c, w.d); n != w.want || e != api.OK {
					t.Errorf("Cmp(%s, %s) = %d, %d, want %d", brief(w.c), brief(w.d), n, e, w.want)
				}
			}
		}
	}
}

// example is what a function of two Dyads has to return.
type example struct{ c, d, want api.Dyad }

// run tests examples, and that the result of others, too large, is ErrLarge and nothing else.
func run(t *testing.T, name string, f func(c, d api.Dyad) (api.Dyad, api.Errno), good []example, large [][2]api.Dyad) {
	t.Helper()
	for _, x := range good {
		if d, e := f(x.c, x.d); !equal(d, x.want) || e != api.OK {
			t.Errorf("%s(%s, %s) = %s, %d, want %s", name, brief(x.c), brief(x.d), brief(d), e, brief(x.want))
		}
		checkSigns(t, x.c, x.d)
	}
	for _, p := range large {
		if d, e := f(p[0], p[1]); !equal(d, api.Dyad{}) || e != api.ErrLarge {
			t.Errorf("%s(%s, %s) = %s, %d, want an error", name, brief(p[0]), brief(p[1]), brief(d), e)
		}
		checkSigns(t, p[0], p[1])
	}
}

func TestAdd(t *testing.T) {
	run(t, "Add", dyad.Add, []example{
		{of(false, -1, 3), of(false, -1, 3), of(false, 0, 3)},
		{api.Dyad{}, api.Dyad{}, api.Dyad{}},
		{api.Dyad{}, of(true, 5, 3), of(true, 5, 3)},
		{of(true, 10000, full(400)...), api.Dyad{}, of(true, 10000, full(400)...)},
		{api.Dyad{}, of(true, -10000, full(400)...), of(true, -10000, full(400)...)},
		{of(false, 0, 1), of(false, -1, 1), of(false, -1, 3)},
		{of(true, 7, 1), of(true, 9, 1), of(true, 7, 5)},
		{of(false, 0, 1), of(true, 0, 1), api.Dyad{}},
		{of(false, 0, 1), of(true, 0, 3), of(true, 1, 1)},
		{of(true, 4, 1), of(false, 0, 1), of(true, 0, 15)},
		{of(false, 0, 0xffffffff), of(false, 0, 1), of(false, 32, 1)},
		{of(true, 9999, 1), of(true, 9999, 1), of(true, 10000, 1)},
		// The sum has 401 limbs before it is in normal form.
		{of(false, 0, full(400)...), of(false, 0, full(400)...), of(false, 1, full(400)...)},
		{of(true, 9999, full(400)...), of(true, 9999, full(400)...), of(true, 10000, full(400)...)},
		{of(true, -2800, full(400)...), of(true, -2800, 1), of(true, 10000, 1)},
		// An odd sum with all bits that there may be.
		{of(false, 2799, 1), of(false, -10000, full(399)...), of(false, -10000, append(full(399), 1<<31)...)},
		{of(false, -9999, full(399)...), of(false, -10000, 1), of(false, -10000, append(full(399), 1)...)},
	}, [][2]api.Dyad{
		{of(true, 10000, 1), of(true, 10000, 1)},
		{of(false, 10000, full(400)...), of(false, 10000, full(400)...)},
		{of(true, -2799, full(400)...), of(true, -2799, 1)},
		{of(false, 2800, 1), of(false, -10000, 1)},
		{of(false, 1, 1), of(false, 0, full(400)...)},
		{of(false, 1, ends(1, 1<<30, 400)...), of(false, 0, ends(1, 1<<31, 400)...)},
		{of(false, 10000, 1), of(false, -10000, 1)},
		{of(false, 10000, full(400)...), of(true, -10000, full(400)...)},
	})
}

func TestSub(t *testing.T) {
	run(t, "Sub", dyad.Sub, []example{
		{of(false, 0, 1), of(false, -70, 1), of(false, -70, 0xffffffff, 0xffffffff, 63)},
		{api.Dyad{}, api.Dyad{}, api.Dyad{}},
		{api.Dyad{}, of(false, 5, 3), of(true, 5, 3)},
		{api.Dyad{}, of(true, 5, 3), of(false, 5, 3)},
		{of(true, 5, 3), api.Dyad{}, of(true, 5, 3)},
		{of(true, 5, 3), of(true, 5, 3), api.Dyad{}},
		{of(false, 10000, full(400)...), of(false, 10000, full(400)...), api.Dyad{}},
		{of(false, 0, 1), of(false, 0, 3), of(true, 1, 1)},
		{of(false, 0, 3), of(true, 0, 5), of(false, 3, 1)},
		{of(false, -3, 9), of(false, 0, 1), of(false, -3, 1)},
		{of(false, -3, 7), of(false, 0, 1), of(true, -3, 1)},
		// The minuend has 401 limbs at the Exp of the other number, but the difference has not.
		{of(false, 2800, 1), of(false, -10000, 1), of(false, -10000, full(400)...)},
		{of(false, 2800, 1), of(false, -10000, full(400)...), of(false, -10000, 1)},
		{of(false, 1, ends(1, 1<<31, 400)...), of(false, 0, full(400)...), of(false, 0, 3)},
		{of(true, 2800, 1), of(true, -10000, ends(1, 1, 400)...), of(true, -10000, append(full(399), 0xfffffffe)...)},
		{of(true, -10000, full(400)...), of(true, 2799, 1), of(true, -10000, append(full(399), 0x7fffffff)...)},
	}, [][2]api.Dyad{
		{of(false, 2801, 1), of(false, -10000, 1)},
		{of(false, 2801, 1), of(false, -10000, full(400)...)},
		{of(false, 2800, 1), of(true, -10000, 1)},
		{of(false, 2770, 0xffffffff), of(false, -9999, 1)},
		{of(false, 1, full(400)...), of(false, 0, 1)},
		{of(true, 10000, 1), of(true, -10000, 1)},
		{of(false, -10000, 1), of(false, 10000, 1)},
		{of(true, 10000, 1), of(false, 10000, 1)},
	})
}

func TestMul(t *testing.T) {
	half, most := full(200), ends(1, 1, 201)
	run(t, "Mul", dyad.Mul, []example{
		{of(false, 1, 3), of(true, -5, 5), of(true, -4, 15)},
		{of(true, 1, 3), of(true, -5, 5), of(false, -4, 15)},
		{api.Dyad{}, of(true, 10000, full(400)...), api.Dyad{}},
		{of(true, -10000, full(400)...), api.Dyad{}, api.Dyad{}},
		{api.Dyad{}, api.Dyad{}, api.Dyad{}},
		{of(true, 5000, 1), of(false, 5000, 1), of(true, 10000, 1)},
		{of(false, -5000, 1), of(false, -5000, 1), of(false, -10000, 1)},
		{of(false, 10000, 1), of(false, -10000, 1), of(false, 0, 1)},
		{of(false, 0, full(400)...), of(true, 0, 1), of(true, 0, full(400)...)},
		{of(false, 0, 0xffffffff), of(false, 0, 0xffffffff), of(false, 0, 1, 0xfffffffe)},
		{of(false, 3, half...), of(false, 4, 1), of(false, 7, half...)},
	}, [][2]api.Dyad{
		{of(false, 6000, 1), of(false, 6000, 1)},
		{of(false, 5001, 1), of(true, 5000, 1)},
		{of(true, -5001, 1), of(false, -5000, 1)},
		{of(false, 10000, 3), of(false, 10000, 5)},
		{of(false, 0, full(400)...), of(false, 0, 3)},
		{of(false, 0, full(400)...), of(true, 0, full(400)...)},
		{of(false, 0, most...), of(false, 0, most...)},
	})
	if d, e := dyad.Mul(of(false, 0, half...), of(false, 0, half...)); len(d.Mant) != 400 || e != api.OK {
		t.Errorf("Mul of 200 limbs: %d limbs, %d", len(d.Mant), e)
	}
}
