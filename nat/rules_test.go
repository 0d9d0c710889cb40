package nat_test

import (
	"math"
	"reflect"
	"slices"
	"testing"

	"ulpwright/api"
	"ulpwright/nat"
)

// outcome is what a call returns: its lists, its other results, and its error.
type outcome struct {
	lists [][]uint32
	plain any
	e     api.Errno
}

// call is a function with lists, with the number of them.
type call struct {
	name  string
	lists int
	run   func(a, b []uint32, n int) outcome
}

func one(l []uint32, e api.Errno) outcome { return outcome{[][]uint32{l}, 0, e} }

func calls() []call {
	return []call{
		{"Check", 1, func(a, _ []uint32, _ int) outcome { return outcome{nil, 0, nat.Check(a)} }},
		{"Cmp", 2, func(a, b []uint32, _ int) outcome {
			n, e := nat.Cmp(a, b)
			return outcome{nil, n, e}
		}},
		{"Add", 2, func(a, b []uint32, _ int) outcome { return one(nat.Add(a, b)) }},
		{"Sub", 2, func(a, b []uint32, _ int) outcome { return one(nat.Sub(a, b)) }},
		{"Mul", 2, func(a, b []uint32, _ int) outcome { return one(nat.Mul(a, b)) }},
		{"Div", 2, func(a, b []uint32, _ int) outcome {
			q, r, e := nat.Div(a, b)
			return outcome{[][]uint32{q, r}, 0, e}
		}},
		{"Shift", 1, func(a, _ []uint32, n int) outcome {
			s, lost, e := nat.Shift(a, n)
			return outcome{[][]uint32{s}, lost, e}
		}},
		{"Bits", 1, func(a, _ []uint32, _ int) outcome {
			n, e := nat.Bits(a)
			return outcome{nil, n, e}
		}},
		{"Root", 1, func(a, _ []uint32, _ int) outcome {
			r, left, e := nat.Root(a)
			return outcome{[][]uint32{r}, left, e}
		}},
		{"Text", 1, func(a, _ []uint32, _ int) outcome {
			s, e := nat.Text(a)
			return outcome{nil, s, e}
		}},
	}
}

// isZero tells whether all results beside the error are zero values.
func (o outcome) isZero() bool {
	for _, l := range o.lists {
		if len(l) != 0 {
			return false
		}
	}
	return reflect.ValueOf(o.plain).IsZero()
}

// P2.1: the error of Check comes before all others, that for a before that for b, with zero results.
func TestErrorsOfLists(t *testing.T) {
	long, loose, both := full(401), []uint32{1, 0}, make([]uint32, 401)
	for _, c := range []struct {
		a, b []uint32
		want [2]api.Errno // with one list, with two
	}{
		{long, nil, [2]api.Errno{api.ErrLarge, api.ErrLarge}},
		{loose, nil, [2]api.Errno{api.ErrForm, api.ErrForm}},
		{both, nil, [2]api.Errno{api.ErrLarge, api.ErrLarge}},
		{[]uint32{0}, nil, [2]api.Errno{api.ErrForm, api.ErrForm}},
		{make([]uint32, 400), nil, [2]api.Errno{api.ErrForm, api.ErrForm}},
		{long, loose, [2]api.Errno{api.ErrLarge, api.ErrLarge}},
		{loose, long, [2]api.Errno{api.ErrForm, api.ErrForm}},
		{loose, both, [2]api.Errno{api.ErrForm, api.ErrForm}},
		{nil, long, [2]api.Errno{api.OK, api.ErrLarge}},
		{nil, loose, [2]api.Errno{api.OK, api.ErrForm}},
		{nil, both, [2]api.Errno{api.OK, api.ErrLarge}},
		{nil, []uint32{0}, [2]api.Errno{api.OK, api.ErrForm}},
		{full(400), long, [2]api.Errno{api.OK, api.ErrLarge}},
		{full(400), make([]uint32, 400), [2]api.Errno{api.OK, api.ErrForm}},
	} {
		for _, f := range calls() {
			want := c.want[f.lists-1]
			if want == api.OK {
				continue
			}
			// The second n would be an error of its own.
			for _, n := range []int{3, 20001} {
				if o := f.run(c.a, c.b, n); o.e != want || !o.isZero() {
					t.Errorf("%s(%d limbs, %d limbs) = %v, want %d", f.name, len(c.a), len(c.b), o, want)
				}
			}
		}
	}
}

// P1: every call returns, with normal forms, or with zeros if there is an error.
func TestEveryArgument(t *testing.T) {
	l := append(samples(), []uint32{0}, []uint32{1, 0}, make([]uint32, 400), make([]uint32, 401), full(401), full(5000))
	ints := []int{math.MinInt, -20001, -20000, -33, -1, 0, 1, 32, 20000, 20001, math.MaxInt}
	for i, a := range l {
		for j, b := range l {
			n := ints[(i+j)%len(ints)]
			for _, f := range calls() {
				if f.lists == 1 && j >= len(ints) {
					continue
				}
				o := f.run(a, b, n)
				if o.e != api.OK && !o.isZero() {
					t.Fatalf("%s(%s, %s, %d): error %d with a result", f.name, brief(a), brief(b), n, o.e)
				}
				for _, r := range o.lists {
					if len(r) > 0 && r[len(r)-1] == 0 {
						t.Fatalf("%s(%s, %s, %d): not in normal form", f.name, brief(a), brief(b), n)
					}
				}
			}
		}
	}
}

// spare is what stands behind the lists of the tests, in their capacity.
const spare = 0xdeadbeef

func withSpare(a []uint32) []uint32 {
	l := append(slices.Clone(a), slices.Repeat([]uint32{spare}, len(a)+9)...)
	return l[:len(a)]
}

func whole(a []uint32) []uint32 { return slices.Clone(a[:cap(a)]) }

// scribble overwrites a list and its spare capacity.
func scribble(a []uint32) {
	a = a[:cap(a)]
	for i := range a {
		a[i] ^= 0x5a5a5a5a
	}
}

// P2: arguments stay as they are, spare capacity included; results share no memory with them nor with
// each other, nor with anything that later calls use.
func TestMemory(t *testing.T) {
	pairs := [][2][]uint32{
		{nil, {1}}, {{1}, nil}, {{1}, {1}}, {{5}, {9}}, {{9}, {5}}, {{0, 0, 1}, {7}}, {{7}, {0, 0, 1}},
		{full(3), full(2)}, {power(4), full(3)}, {full(30), power(7)}, {full(400), full(199)},
		{power(400), power(400)}, {full(6), full(6)}, {{0x80000000, 0x80000000}, {0x80000000}},
		{{1, 0}, {1}}, {{1}, {1, 0}}, {full(401), {1}}, {{1}, full(401)},
	}
	for _, f := range calls() {
		for _, p := range pairs {
			for _, n := range []int{-70, -32, -1, 0, 1, 32, 70, 20001} {
				checkMemory(t, f, withSpare(p[0]), withSpare(p[1]), n)
			}
		}
	}
}

func checkMemory(t *testing.T, f call, a, b []uint32, n int) {
	t.Helper()
	wholeA, wholeB := whole(a), whole(b)
	o := f.run(a, b, n)
	first := outcome{nil, o.plain, o.e}
	for _, l := range o.lists {
		first.lists = append(first.lists, slices.Clone(l))
	}
	for i, l := range o.lists {
		others := slices.Concat(o.lists[:i], o.lists[i+1:])
		var before [][]uint32
		for _, m := range others {
			before = append(before, whole(m))
		}
		scribble(l)
		for j, m := range others {
			if !slices.Equal(whole(m), before[j]) {
				t.Errorf("%s(%s, %s, %d): results share memory", f.name, brief(a), brief(b), n)
			}
		}
	}
	if !slices.Equal(whole(a), wholeA) || !slices.Equal(whole(b), wholeB) {
		t.Errorf("%s(%s, %s, %d): an argument was changed", f.name, brief(a), brief(b), n)
	}
	again := f.run(a, b, n)
	if again.e != first.e || again.plain != first.plain || !slices.EqualFunc(again.lists, first.lists, slices.Equal) {
		t.Errorf("%s(%s, %s, %d): another result in the second call", f.name, brief(a), brief(b), n)
	}
}

// P2: the same list may be both arguments.
func TestOneListTwice(t *testing.T) {
	for _, a := range samples() {
		for _, f := range calls() {
			o, p := f.run(a, a, -5), f.run(a, slices.Clone(a), -5)
			if o.e != p.e || o.plain != p.plain || !slices.EqualFunc(o.lists, p.lists, slices.Equal) {
				t.Errorf("%s(%s) twice", f.name, brief(a))
			}
		}
	}
}

// P2: the lists of Of are new with every call.
func TestMemoryOfOf(t *testing.T) {
	for _, n := range []uint64{0, 1, 7, 1 << 32, math.MaxUint64} {
		want := slices.Clone(nat.Of(n))
		scribble(nat.Of(n))
		if a := nat.Of(n); !slices.Equal(a, want) {
			t.Errorf("Of(%d) = %v, and before %v", n, a, want)
		}
	}
}
