package round_test

import (
	"math"
	"math/big"
	"slices"
	"sort"
	"strconv"

	"ulpwright/api"
)

var modes = []int{api.MNear, api.MUp, api.MDown, api.MZero, api.MAway}

func of(neg bool, exp int, mant ...uint32) api.Dyad { return api.Dyad{Neg: neg, Mant: mant, Exp: exp} }

// full returns the largest number with n limbs.
func full(n int) []uint32 { return slices.Repeat([]uint32{math.MaxUint32}, n) }

// ends returns an odd number of n limbs with the given lowest and highest limb and zeros between them.
func ends(low, high uint32, n int) []uint32 {
	l := make([]uint32, n)
	l[0], l[n-1] = low, high
	return l
}

// in returns the value of d in units of 2^exp, where exp is at most Exp of d.
func in(exp int, d api.Dyad) *big.Int {
	words := make([]big.Word, (len(d.Mant)+1)/2)
	for i, limb := range d.Mant {
		words[i/2] |= big.Word(limb) << (i % 2 * 32)
	}
	v := new(big.Int).SetBits(words)
	if d.Neg {
		v.Neg(v)
	}
	return v.Lsh(v, uint(d.Exp-exp))
}

// normal returns v times 2^exp in normal form.
func normal(v *big.Int, exp int) api.Dyad {
	if v.Sign() == 0 {
		return api.Dyad{}
	}
	zeros := v.TrailingZeroBits()
	var mant []uint32
	for _, word := range new(big.Int).Rsh(new(big.Int).Abs(v), zeros).Bits() {
		mant = append(mant, uint32(word), uint32(word>>32))
	}
	if mant[len(mant)-1] == 0 {
		mant = mant[:len(mant)-1]
	}
	return of(v.Sign() < 0, exp+int(zeros), mant...)
}

func isLarge(d api.Dyad) bool { return len(d.Mant) > 400 || d.Exp < -10000 || d.Exp > 10000 }

func equal(c, d api.Dyad) bool {
	return c.Neg == d.Neg && c.Exp == d.Exp && slices.Equal(c.Mant, d.Mant)
}

func negated(d api.Dyad) api.Dyad {
	d.Neg = !d.Neg && len(d.Mant) > 0
	return d
}

// brief keeps the report of a failure readable.
func brief(d api.Dyad) string {
	s := in(d.Exp, d).Text(16)
	if len(s) > 60 {
		s = s[:25] + "..." + s[len(s)-25:]
	}
	return s + "*2^" + strconv.Itoa(d.Exp) + " (" + strconv.Itoa(len(d.Mant)) + " limbs)"
}

// size returns the value that P1.2 gives to the number with the Rank r, in units of 2^exp, where exp is at
// most -1074. For api.Inf, this is 2^1024.
func size(r, exp int) *big.Int {
	mant, unit := int64(r%(1<<52)), -1074
	if r >= 1<<52 {
		mant += 1 << 52
		unit = r>>52 - 1075
	}
	return new(big.Int).Lsh(big.NewInt(mant), uint(unit-exp))
}

// pick is P4.1: whether a value of the given sign is rounded away from 0, where near compares its distance
// from the neighbour toward 0 with that from the other one, and even tells whether the first one is even.
func pick(neg bool, near int, even bool, mode int) bool {
	switch mode {
	case api.MUp:
		return !neg
	case api.MDown:
		return neg
	case api.MZero:
		return false
	}
	return near > 0 || near == 0 && (mode == api.MAway || !even)
}

// numbers returns v times 2^exp rounded by all modes, and whether it differs from the results. It looks for
// the neighbours of the value among all numbers. The exp is at most -1074.
func numbers(v *big.Int, exp int) ([5]uint64, bool) {
	a := new(big.Int).Abs(v)
	low := sort.Search(api.MaxRank-1, func(r int) bool { return size(r+1, exp).Cmp(a) > 0 })
	down, up := new(big.Int).Sub(a, size(low, exp)), new(big.Int).Sub(size(low+1, exp), a)
	var l [5]uint64
	for _, mode := range modes {
		x := uint64(low)
		if down.Sign() > 0 && pick(v.Sign() < 0, down.Cmp(up), low%2 == 0, mode) {
			x++
		}
		if v.Sign() < 0 {
			x |= api.Sign
		}
		l[mode] = x
	}
	return l, down.Sign() > 0
}

// noise is a source of the same numbers in every run.
type noise uint64

func (x *noise) next() uint64 {
	*x ^= *x << 13
	*x ^= *x >> 7
	*x ^= *x << 17
	return uint64(*x)
}

// dyad returns one of n limbs, some of which are zeros or full, whose highest bit stands for 2^(top - 1).
func (x *noise) dyad(n, top int) api.Dyad {
	l := make([]uint32, n)
	for i := range l {
		l[i] = []uint32{0, math.MaxUint32, uint32(x.next() >> 20), uint32(x.next() >> 20)}[x.next()>>40%4]
	}
	l[0] |= 1
	l[n-1] |= 1 << (x.next() >> 30 % 32)
	v := in(0, of(x.next()>>50%2 == 0, 0, l...))
	return normal(v, top-v.BitLen())
}

// samples returns Dyads of many lengths around the range of numbers and up to all limits.
func samples() []api.Dyad {
	l := []api.Dyad{{}}
	put := func(exp int, mant ...uint32) { l = append(l, of(false, exp, mant...), of(true, exp, mant...)) }
	for _, exp := range []int{-10000, -9999, -1076, -1075, -1074, -54, -1, 0, 1, 970, 971, 1023, 1024, 9999, 10000} {
		put(exp, 1)
		put(exp, 3)
		put(exp, full(390)...)
		put(exp, full(400)...)
		put(exp, ends(1, 1<<31, 400)...)
	}
	x := noise(0x9e3779b97f4a7c15)
	for _, top := range []int{-5000, -1080, -1075, -1074, -1073, -1060, -1030, -1023, -1022, -1021, -500, -1, 0, 1, 2, 700, 1022, 1023, 1024, 1025, 9000} {
		for _, n := range []int{1, 1, 2, 2, 2, 3, 4, 60, 150} {
			l = append(l, x.dyad(n, top))
		}
	}
	return l
}

// ranks returns those of numbers at which something changes, none of them below 0 and all less than MaxRank.
func ranks() []int {
	l := []int{0, 1, 2, 3, 1 << 20, 1<<52 - 2, 1<<52 - 1, 1 << 52, 1<<52 + 1, 1<<53 - 1, 1 << 53, 1<<53 + 1}
	for _, exp := range []int{3, 500, 971, 1022, 1023, 1024, 1075, 2045, 2046} {
		for _, frac := range []int{0, 1, 2, 0x5555555555555, 0xaaaaaaaaaaaaa, 1<<52 - 2, 1<<52 - 1} {
			l = append(l, exp<<52+frac)
		}
	}
	return l
}
