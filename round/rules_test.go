package round_test

import (
	"math"
	"slices"
	"testing"

	"ulpwright/api"
	"ulpwright/dyad"
	"ulpwright/round"
)

// invalid returns Dyads that dyad.Check refuses.
func invalid() []api.Dyad {
	return []api.Dyad{
		of(true, 0), of(false, 1), of(false, 0, 0), of(false, 0, 2), of(true, 0, 1, 0), of(false, 0, 0, 1),
		of(false, 0, make([]uint32, 400)...), of(false, 0, make([]uint32, 401)...), of(false, 0, full(401)...),
		of(true, 5, full(5000)...), of(false, 10001), of(false, 10001, 1), of(true, -10001, 1), of(false, 10001, 2),
		of(false, math.MaxInt, 1), of(true, math.MinInt, 1), of(false, math.MinInt), of(true, math.MaxInt, full(401)...),
	}
}

func TestToErrors(t *testing.T) {
	unknown := []int{-1, 5, 6, math.MinInt, math.MaxInt}
	for _, d := range []api.Dyad{{}, of(false, 0, 1), of(true, -1080, 3), of(false, 10000, full(400)...)} {
		for _, mode := range unknown {
			if x, lost, e := round.To(d, mode); x != 0 || lost || e != api.ErrArg {
				t.Errorf("To(%s, %d) = %#x, %t, %d", brief(d), mode, x, lost, e)
			}
		}
	}
	for _, d := range invalid() {
		for _, mode := range append(unknown, modes...) {
			if x, lost, e := round.To(d, mode); x != 0 || lost || e != dyad.Check(d) || e == api.OK {
				t.Errorf("To(%s, %d) = %#x, %t, %d", brief(d), mode, x, lost, e)
			}
		}
	}
}

// spare is what stands behind the lists of the tests, in their capacity.
const spare = 0xdeadbeef

func withSpare(d api.Dyad) api.Dyad {
	l := append(slices.Clone(d.Mant), slices.Repeat([]uint32{spare}, len(d.Mant)+20)...)
	d.Mant = l[:len(d.Mant)]
	return d
}

func whole(d api.Dyad) []uint32 { return slices.Clone(d.Mant[:cap(d.Mant)]) }

// scribble overwrites a list and its spare capacity.
func scribble(a []uint32) {
	a = a[:cap(a)]
	for i := range a {
		a[i] ^= 0x5a5a5a5a
	}
}

// P2: arguments stay as they are, spare capacity included; the result of Cut shares no memory with them,
// nor with anything that later calls use.
func TestMemory(t *testing.T) {
	l := append(invalid(), api.Dyad{}, of(false, 0, 1), of(true, 0, 1), of(true, -3, 5, 7), of(false, 0, full(390)...), of(false, -7000, full(400)...))
	for _, c := range l {
		for _, d := range l {
			for _, mode := range []int{api.MNear, api.MUp, api.MDown, 5} {
				for _, places := range []int{-5, 0, 3, 20000, 20001} {
					checkMemory(t, withSpare(c), withSpare(d), places, mode)
				}
			}
		}
	}
}

func checkMemory(t *testing.T, c, d api.Dyad, places, mode int) {
	t.Helper()
	wholeC, wholeD := whole(c), whole(d)
	x, _, _ := round.To(c, mode)
	y, _, _ := round.Part(c, d, mode)
	r, _, _ := round.Cut(c, places, mode)
	first := r
	first.Mant = slices.Clone(r.Mant)
	scribble(r.Mant)
	if !slices.Equal(whole(c), wholeC) || !slices.Equal(whole(d), wholeD) {
		t.Errorf("%s, %s, %d, %d: an argument was changed", brief(c), brief(d), places, mode)
	}
	x2, _, _ := round.To(c, mode)
	y2, _, _ := round.Part(c, d, mode)
	r2, _, _ := round.Cut(c, places, mode)
	if x2 != x || y2 != y || !equal(r2, first) {
		t.Errorf("%s, %s, %d, %d: another result in the second call", brief(c), brief(d), places, mode)
	}
}

// P2: the same Dyad may be both arguments of Part.
func TestOneDyadTwice(t *testing.T) {
	one := withSpare(of(false, 0, 1))
	if x, lost, e := round.Part(one, one, api.MUp); x != api.One+1 || !lost || e != api.OK {
		t.Errorf("Part(1, 1) = %#x, %t, %d", x, lost, e)
	}
}

// P1: every call returns, with zeros if there is an error.
func TestEveryArgument(t *testing.T) {
	l := append(samples(), invalid()...)
	ints := []int{math.MinInt, -20001, -20000, -10000, -1, 0, 1, 5, 10000, 20000, 20001, math.MaxInt}
	for i, c := range l {
		for j, n := range ints {
			d, mode := l[(7*i+j)%len(l)], (i+j)%7-1
			if x, lost, e := round.Part(c, d, mode); e != api.OK && (x != 0 || lost) {
				t.Errorf("Part(%s, %s, %d): error %d with a result", brief(c), brief(d), mode, e)
			}
			r, lost, e := round.Cut(c, n, mode)
			if e != api.OK && (!equal(r, api.Dyad{}) || lost) {
				t.Errorf("Cut(%s, %d, %d): error %d with a result", brief(c), n, mode, e)
			}
			if dyad.Check(r) != api.OK {
				t.Errorf("Cut(%s, %d, %d) = %s is not valid", brief(c), n, mode, brief(r))
			}
		}
	}
}
