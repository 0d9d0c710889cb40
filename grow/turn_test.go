package grow_test

import (
	"math"
	"math/big"
	"slices"
	"testing"

	"ulpwright/api"
	"ulpwright/grow"
)

// points are ax, ay, bx, by, cx and cy.
type points [6]uint64

// expectTurn is P11.3.
func expectTurn(p points) (int, api.Errno) {
	if !hasValue(p[0]) || !hasValue(p[1]) || !hasValue(p[2]) || !hasValue(p[3]) || !hasValue(p[4]) || !hasValue(p[5]) {
		return 0, api.ErrNone
	}
	for _, x := range p {
		if v := math.Abs(value(x)); v != 0 && (v < 0x1p-400 || v > 0x1p400) {
			return 0, api.ErrLarge
		}
	}
	from := func(i, j int) *big.Float { return precise(p[i]).Sub(precise(p[i]), precise(p[j])) }
	product := func(x, y *big.Float) *big.Float { return x.Mul(x, y) }
	left, right := product(from(0, 4), from(3, 5)), product(from(1, 5), from(2, 4))
	return left.Cmp(right), api.OK
}

func turn(p points) (int, api.Errno) { return grow.Turn(p[0], p[1], p[2], p[3], p[4], p[5]) }

func checkTurn(t *testing.T, p points) {
	t.Helper()
	want, wantE := expectTurn(p)
	if n, e := turn(p); n != want || e != wantE {
		t.Errorf("Turn(%#x) = %d, %d, want %d, %d", p, n, e, want, wantE)
	}
}

func TestTurn(t *testing.T) {
	for _, c := range []struct {
		p    points
		want int
	}{
		{points{0, 0, api.One, 0, 0, api.One}, 1}, // to the left
		{points{0, 0, api.One, 0, 0, minusOne}, -1},
		{points{0, 0, api.One, 0, two, 0}, 0},
		{points{api.One, 0, 0, api.One, 0, 0}, 1},
		{points{0, api.One, api.One, 0, 0, 0}, -1},
		{points{0, 0, two, two, api.One, api.One}, 0},
		{points{0, 0, two, two, api.One, api.One + 1}, 1},
		{points{0, 0, two, two, api.One + 1, api.One}, -1},
		{points{0, 0, two, two, api.One, api.One - 1}, -1},
		{points{two, two, 0, 0, api.One, api.One + 1}, -1},
		// The differences, or the products, do not fit into numbers.
		{points{greatest, greatest, api.One, api.One, least, least}, 0},
		{points{greatest, greatest, api.One, api.One, least, least + 1}, -1},
		{points{greatest, greatest, api.One, api.One, least + 1, least}, 1},
		{points{greatest, neg | greatest, neg | greatest, greatest, least, neg | least}, 0},
		{points{greatest, neg | greatest, neg | greatest, greatest, least, least}, -1},
		{points{least, 0, 0, least, 0, 0}, 1},
		{points{0, least, least, 0, 0, 0}, -1},
		{points{api.One + 1, api.One, api.One, api.One - 1, 0, 0}, 1},
		{points{api.One + 2, api.One + 1, api.One + 1, api.One, 0, 0}, -1},
		{points{three, api.One, 0x4022000000000000, three, 0, 0}, 0},
		{points{0x3fb999999999999a, 0x3fc999999999999a, 0x3fd3333333333334, 0x3fe3333333333334, 0, 0}, 0},
		{points{0x3fb999999999999a, 0x3fc999999999999a, 0x3fd3333333333333, 0x3fe3333333333334, 0, 0}, 1},
		// Points that are the same.
		{points{}, 0}, {points{neg, neg, neg, neg, neg, neg}, 0}, {points{neg, 0, 0, neg, 0, neg}, 0},
		{points{three, five, three, five, api.One, tiny}, 0}, {points{three, five, api.One, tiny, three, five}, 0}, {points{api.One, tiny, three, five, three, five}, 0},
		{points{neg, 0, api.One, neg, 0, api.One}, 1},
	} {
		if n, e := turn(c.p); n != c.want || e != api.OK {
			t.Errorf("Turn(%#x) = %d, %d, want %d", c.p, n, e, c.want)
		}
		checkTurn(t, c.p)
	}
}

// Every number may be without a value, or out of the range.
func TestTurnErrors(t *testing.T) {
	far := list(1, small, smallest, least-1, neg|1, neg|least-1, greatest+1, neg|greatest+1, top, neg|api.Most)
	for i := range 6 {
		for _, p := range []points{{}, {api.One, two, three, four, five, tiny}, {neg, least, greatest, neg | least, neg | greatest, 0}} {
			for _, x := range far {
				q := p
				q[i] = x
				checkTurnError(t, q, api.ErrLarge)
			}
			for _, x := range nothings {
				for j := range 6 {
					q := p
					q[j] = far[j]
					q[i] = x
					checkTurnError(t, q, api.ErrNone)
				}
			}
			for _, x := range list(least, neg|least, greatest, neg|greatest, greatest-1, least+1, 0, neg) {
				q := p
				q[i] = x
				checkTurn(t, q)
				if _, e := turn(q); e != api.OK {
					t.Errorf("Turn(%#x): %d", q, e)
				}
			}
		}
	}
}

func checkTurnError(t *testing.T, p points, want api.Errno) {
	t.Helper()
	if n, e := turn(p); n != 0 || e != want {
		t.Errorf("Turn(%#x) = %d, %d, want %d", p, n, e, want)
	}
}

func TestTurnSamples(t *testing.T) {
	l := list(neg, least, neg|greatest, api.One, minusOne+1, three)
	for n := range 6 * 6 * 6 * 6 * 6 * 6 {
		var p points
		for i := range p {
			p[i] = l[n%6]
			n /= 6
		}
		checkTurn(t, p)
	}
}

// Points at all distances, the third of them on or near to the line through the others.
func TestTurnPoints(t *testing.T) {
	r := noise(0x853c49e6748fea9b)
	for _, exps := range [][2]int{{1020, 1026}, {1023, 1023}, {960, 1080}, {624, 1422}, {624, 630}, {1416, 1422}} {
		for range 3000 {
			var p points
			for i := range p {
				p[i] = r.number(exps[0], exps[1])
			}
			checkTurn(t, p)
			s := value(r.number(1018, 1024))
			for i, x := range []float64{value(p[0]), value(p[1])} {
				p[4+i] = number(x + s*(value(p[2+i])-x))
			}
			checkTurn(t, p)
			p[5] += r.next() % 3
			checkTurn(t, p)
			checkTurn(t, points{p[2], p[3], p[4], p[5], p[0], p[1]})
			checkTurn(t, points{p[2], p[3], p[0], p[1], p[4], p[5]})
		}
	}
}

// P2: lists stay as they are, their spare capacity included, and results are new memory.
func TestMemory(t *testing.T) {
	for _, l := range expansions() {
		for _, m := range expansions() {
			want, wantE := grow.Join(l, m)
			sum, sumE := grow.Add(l, three)
			for _, spare := range list(0, api.Nan) {
				a, b := append(slices.Clone(l), slices.Repeat(list(spare), 70)...), append(slices.Clone(m), slices.Repeat(list(spare), 70)...)
				oldA, oldB := slices.Clone(a), slices.Clone(b)
				joined, e := grow.Join(a[:len(l)], b[:len(m)])
				added, f := grow.Add(a[:len(l)], three)
				if !slices.Equal(joined, want) || e != wantE || !slices.Equal(added, sum) || f != sumE {
					t.Errorf("%#x, %#x: another result for the second time", l, m)
				}
				overwrite(joined)
				overwrite(added)
				if !slices.Equal(a, oldA) || !slices.Equal(b, oldB) {
					t.Errorf("%#x, %#x: changed", l, m)
				}
				checkValue(t, a[:len(l)])
				checkCheck(t, b[:len(m)], api.OK)
			}
		}
	}
}

func overwrite(l []uint64) {
	for i := range l[:cap(l)] {
		l[:cap(l)][i] = api.Inf
	}
}
