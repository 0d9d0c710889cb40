package dyad_test

import (
	"math"
	"slices"
	"testing"

	"ulpwright/api"
	"ulpwright/dyad"
)

// call is a function with Dyads, with the number of them, as one with a Dyad and an int.
type call struct {
	name  string
	dyads int
	run   func(c, d api.Dyad, n int) (api.Dyad, int, api.Errno)
}

func calls() []call {
	return []call{
		{"Check", 1, func(c, _ api.Dyad, _ int) (api.Dyad, int, api.Errno) { return api.Dyad{}, 0, dyad.Check(c) }},
		{"Shift", 1, func(c, _ api.Dyad, n int) (api.Dyad, int, api.Errno) { return noInt(dyad.Shift(c, n)) }},
		{"Cmp", 2, func(c, d api.Dyad, _ int) (api.Dyad, int, api.Errno) {
			n, e := dyad.Cmp(c, d)
			return api.Dyad{}, n, e
		}},
		{"Add", 2, func(c, d api.Dyad, _ int) (api.Dyad, int, api.Errno) { return noInt(dyad.Add(c, d)) }},
		{"Sub", 2, func(c, d api.Dyad, _ int) (api.Dyad, int, api.Errno) { return noInt(dyad.Sub(c, d)) }},
		{"Mul", 2, func(c, d api.Dyad, _ int) (api.Dyad, int, api.Errno) { return noInt(dyad.Mul(c, d)) }},
	}
}

func noInt(d api.Dyad, e api.Errno) (api.Dyad, int, api.Errno) { return d, 0, e }

// invalid returns Dyads that Check refuses.
func invalid() []api.Dyad {
	return []api.Dyad{
		of(true, 0), of(false, 1), of(true, -1), of(false, 0, 0), of(false, 0, 2), of(true, 0, 1, 0), of(false, 0, 0, 1),
		of(false, 0, power(400)...), of(false, 0, make([]uint32, 400)...), of(false, 0, make([]uint32, 401)...),
		of(false, 0, full(401)...), of(true, 0, power(401)...), of(true, 5, full(5000)...), of(false, 10001), of(false, 10001, 1),
		of(true, -10001, 1), of(false, 10001, 2), of(false, math.MaxInt, 1), of(true, math.MinInt, 1), of(true, math.MinInt),
		of(false, math.MaxInt, full(401)...),
	}
}

// P3.2: the error of Check comes before all others, that for c before that for d, with zero results.
func TestErrorsOfDyads(t *testing.T) {
	// One with which sums and products are too large, and shifts by 20001 an error of their own.
	large := of(false, 10000, full(400)...)
	for _, f := range calls() {
		for _, c := range invalid() {
			want := dyad.Check(c)
			for _, d := range append(invalid(), api.Dyad{}, of(false, 0, 1), large) {
				for _, n := range []int{0, 20001, math.MinInt} {
					if r, i, e := f.run(c, d, n); e != want || i != 0 || !equal(r, api.Dyad{}) {
						t.Errorf("%s(%s, %s, %d): error %d, want %d", f.name, brief(c), brief(d), n, e, want)
					}
				}
			}
			if f.dyads == 1 {
				continue
			}
			for _, d := range []api.Dyad{{}, of(false, 0, 1), large} {
				if r, i, e := f.run(d, c, 0); e != want || i != 0 || !equal(r, api.Dyad{}) {
					t.Errorf("%s(%s, %s): error %d, want %d", f.name, brief(d), brief(c), e, want)
				}
			}
		}
	}
}

func TestInvalidDyads(t *testing.T) {
	for _, d := range invalid() {
		want := api.ErrForm
		if len(d.Mant) > 400 || d.Exp < -10000 || d.Exp > 10000 {
			want = api.ErrLarge
		}
		if e := dyad.Check(d); e != want {
			t.Errorf("Check(%s) = %d, want %d", brief(d), e, want)
		}
	}
}

// spare is what stands behind the lists of the tests, in their capacity.
const spare = 0xdeadbeef

func withSpare(d api.Dyad) api.Dyad {
	l := append(slices.Clone(d.Mant), slices.Repeat([]uint32{spare}, len(d.Mant)+9)...)
	d.Mant = l[:len(d.Mant)]
	return d
}

func whole(d api.Dyad) []uint32 { return slices.Clone(d.Mant[:cap(d.Mant)]) }

// scribble overwrites a list and its spare capacity.
func scribble(a []uint32) {
	a = a[:cap(a)]
	for i := range a {
		a[i] ^= 0x5a5a5a5a
	}
}

// P2: arguments stay as they are, spare capacity included; results share no memory with them, nor with
// anything that later calls use.
func TestMemory(t *testing.T) {
	pairs := [][2]api.Dyad{
		{{}, {}}, {{}, of(true, 3, 1)}, {of(true, 3, 5, 7), {}}, {of(false, 0, 1), of(false, 0, 1)},
		{of(false, 0, 1), of(true, 0, 1)}, {of(false, -5, 9, 9), of(true, 70, 1)}, {of(false, 70, 1), of(false, -5, 9, 9)},
		{of(false, 0, full(400)...), of(false, 0, full(400)...)}, {of(false, 12800, 1), of(false, 0, full(400)...)},
		{of(true, 10000, full(3)...), of(false, -10000, 1)}, {of(false, 0, full(200)...), of(true, 0, full(200)...)},
		{of(false, 0, 2), of(false, 0, 1)}, {of(false, 0, 1), of(true, 0)}, {of(false, 0, full(401)...), of(false, 0, 1)},
	}
	for _, f := range calls() {
		for _, p := range pairs {
			for _, n := range []int{-70, 0, 1, 20000, 20001} {
				checkMemory(t, f, withSpare(p[0]), withSpare(p[1]), n)
			}
		}
	}
}

func checkMemory(t *testing.T, f call, c, d api.Dyad, n int) {
	t.Helper()
	wholeC, wholeD := whole(c), whole(d)
	r, i, e := f.run(c, d, n)
	first := r
	first.Mant = slices.Clone(r.Mant)
	scribble(r.Mant)
	if !slices.Equal(whole(c), wholeC) || !slices.Equal(whole(d), wholeD) {
		t.Errorf("%s(%s, %s, %d): an argument was changed", f.name, brief(c), brief(d), n)
	}
	if r, j, again := f.run(c, d, n); !equal(r, first) || i != j || e != again {
		t.Errorf("%s(%s, %s, %d): another result in the second call", f.name, brief(c), brief(d), n)
	}
}

func TestMemoryOfMake(t *testing.T) {
	for _, mant := range [][]uint32{{}, {1}, {6}, {0, 0, 5}, {1, 0, 5}, full(400), power(400), {1, 0}} {
		arg := withSpare(of(false, 0, mant...))
		before := whole(arg)
		d, e := dyad.Make(true, arg.Mant, -3)
		first := slices.Clone(d.Mant)
		scribble(d.Mant)
		if !slices.Equal(whole(arg), before) {
			t.Errorf("Make changed %s", brief(arg))
		}
		if again, f := dyad.Make(true, arg.Mant, -3); !slices.Equal(again.Mant, first) || e != f {
			t.Errorf("Make(%s): another result in the second call", brief(arg))
		}
	}
}

// P2: the lists of Of are new with every call.
func TestMemoryOfOf(t *testing.T) {
	for _, x := range []uint64{0, 1, api.One, api.One + 1, api.Most} {
		d, _ := dyad.Of(x)
		want := slices.Clone(d.Mant)
		scribble(d.Mant)
		if d, _ := dyad.Of(x); !slices.Equal(d.Mant, want) {
			t.Errorf("Of(%#x) = %s", x, brief(d))
		}
	}
}

func TestMemoryOfSame(t *testing.T) {
	c, d := withSpare(of(false, 0, 1, 2)), withSpare(of(false, 0, 1, 2))
	d.Mant[:3][2] = 7 // in the spare capacity, which is not part of the Dyad
	wholeC, wholeD := whole(c), whole(d)
	if !dyad.Same(c, d) || !slices.Equal(whole(c), wholeC) || !slices.Equal(whole(d), wholeD) {
		t.Error("Same depends on spare capacity, or changed it")
	}
}

// P2: the same Dyad may be both arguments.
func TestOneDyadTwice(t *testing.T) {
	for _, d := range samples() {
		copied := d
		copied.Mant = slices.Clone(d.Mant)
		for _, f := range calls() {
			r, i, e := f.run(d, d, -5)
			s, j, g := f.run(d, copied, -5)
			if !equal(r, s) || i != j || e != g {
				t.Errorf("%s(%s) twice", f.name, brief(d))
			}
		}
	}
}
