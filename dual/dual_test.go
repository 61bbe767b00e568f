package dual_test

import (
	"math"
	"math/big"
	"testing"

	"voxsat/api"
	"voxsat/dual"
)

const most, least = math.MaxInt64, math.MinInt64

// edges are numbers beside those at which something changes: 0, the ends of 15,
// 16, 31 and 32 bits, and those of 64.
func edges() []int {
	l := []int{least, least + 1, most - 1, most, 3, -3, 12345, -12345, 46340, 46341, 123456789, -123456789, 1518500249, 1518500250}
	for _, n := range []int{0, 1, 8, 14, 15, 16, 17, 29, 30, 31, 32, 47, 48, 62} {
		for d := -2; d <= 2; d++ {
			l = append(l, 1<<n+d, -1<<n+d)
		}
	}
	return l
}

// mixed are n numbers of 31 bits, the same ones always, of all lengths.
func mixed(n int) []int {
	l := make([]int, n)
	x := uint32(1)
	for i := range l {
		x = x*1664525 + 1013904223
		l[i] = int(x>>1) >> (i % 31)
	}
	return l
}

func wide(x int) *big.Int { return big.NewInt(int64(x)) }

// clamp is x, stopped at so many bits.
func clamp(x *big.Int, width uint) *big.Int {
	low := new(big.Int).Lsh(big.NewInt(-1), width-1)
	high := new(big.Int).Sub(new(big.Int).Neg(low), big.NewInt(1))
	if x.Cmp(low) < 0 {
		return low
	}
	if x.Cmp(high) > 0 {
		return high
	}
	return x
}

// badDuals are pairs of which a part is out of its bounds.
func badDuals() []api.Dual {
	return []api.Dual{
		{Hi: 32768}, {Hi: -32769}, {Hi: most}, {Hi: least}, {Hi: 1 << 16}, {Hi: 1 << 48},
		{Lo: -1}, {Lo: 32768}, {Lo: 65535}, {Lo: most}, {Lo: least}, {Lo: 1 << 32},
		{Hi: 5, Lo: -1}, {Hi: -32768, Lo: 32768}, {Hi: 32768, Lo: 32768}, {Hi: least, Lo: least},
	}
}

// goodDuals are pairs at the ends of their bounds, and some within.
func goodDuals() []api.Dual {
	var l []api.Dual
	for _, hi := range []int{-32768, -32767, -16385, -16384, -5, -1, 0, 1, 4, 181, 12345, 16384, 32766, 32767} {
		for _, lo := range []int{0, 1, 2, 181, 16383, 16384, 16385, 23456, 32766, 32767} {
			l = append(l, api.Dual{Hi: hi, Lo: lo})
		}
	}
	return l
}

// P2.1
func TestSplit(t *testing.T) {
	for _, x := range []struct {
		a    int
		want api.Dual
	}{
		{0, api.Dual{Hi: 0, Lo: 0}},
		{1, api.Dual{Hi: 0, Lo: 0}},
		{2, api.Dual{Hi: 0, Lo: 1}},
		{3, api.Dual{Hi: 0, Lo: 1}},
		{65535, api.Dual{Hi: 0, Lo: 32767}},
		{65536, api.Dual{Hi: 1, Lo: 0}},
		{65538, api.Dual{Hi: 1, Lo: 1}},
		{-1, api.Dual{Hi: -1, Lo: 32767}},
		{-2, api.Dual{Hi: -1, Lo: 32767}},
		{-3, api.Dual{Hi: -1, Lo: 32766}},
		{-65536, api.Dual{Hi: -1, Lo: 0}},
		{-65537, api.Dual{Hi: -2, Lo: 32767}},
		{123456789, api.Dual{Hi: 1883, Lo: 26250}},
		{-123456789, api.Dual{Hi: -1884, Lo: 6517}},
		{1<<31 - 1, api.Dual{Hi: 32767, Lo: 32767}},
		{1 << 31, api.Dual{Hi: 32767, Lo: 32767}},
		{most, api.Dual{Hi: 32767, Lo: 32767}},
		{-1 << 31, api.Dual{Hi: -32768, Lo: 0}},
		{-1<<31 + 2, api.Dual{Hi: -32768, Lo: 1}},
		{-1<<31 - 1, api.Dual{Hi: -32768, Lo: 0}},
		{least, api.Dual{Hi: -32768, Lo: 0}},
	} {
		if got := dual.Split(x.a); got != x.want {
			t.Errorf("Split(%d): %v; wanted %v", x.a, got, x.want)
		}
	}
}

// P2.1
func TestJoin(t *testing.T) {
	for _, x := range []struct {
		d    api.Dual
		want int
	}{
		{api.Dual{}, 0},
		{api.Dual{Hi: 0, Lo: 1}, 2},
		{api.Dual{Hi: 1, Lo: 0}, 65536},
		{api.Dual{Hi: -1, Lo: 32767}, -2},
		{api.Dual{Hi: -1, Lo: 0}, -65536},
		{api.Dual{Hi: 1883, Lo: 26250}, 123456788},
		{api.Dual{Hi: 32767, Lo: 32767}, 1<<31 - 2},
		{api.Dual{Hi: -32768, Lo: 0}, -1 << 31},
		{api.Dual{Hi: -32768, Lo: 32767}, -1<<31 + 65534},
	} {
		if got, e := dual.Join(x.d); got != x.want || e != api.OK {
			t.Errorf("Join(%v): %d, %d; wanted %d", x.d, got, e, x.want)
		}
	}
	for _, d := range badDuals() {
		if got, e := dual.Join(d); got != 0 || e != api.ErrRange {
			t.Errorf("Join(%v): %d, %d; wanted 0, ErrRange", d, got, e)
		}
	}
}

// P2.1: what is split and joined again has lost its lowest bit alone.
func TestSplitAndJoin(t *testing.T) {
	for _, a := range append(edges(), mixed(2000)...) {
		within := int(clamp(wide(a), 32).Int64())
		want := within - (within%2+2)%2
		if got, e := dual.Join(dual.Split(a)); got != want || e != api.OK {
			t.Errorf("Join of Split(%d): %d, %d; wanted %d", a, got, e, want)
		}
	}
	for _, d := range goodDuals() {
		joined, e := dual.Join(d)
		if got := dual.Split(joined); got != d || e != api.OK {
			t.Errorf("Split of Join(%v): %v, %d", d, got, e)
		}
	}
}

// P2.2
func TestMul(t *testing.T) {
	for _, x := range []struct {
		a, b api.Dual
		want int
	}{
		{api.Dual{}, api.Dual{Hi: 32767, Lo: 32767}, 0},
		{api.Dual{Hi: 16384}, api.Dual{Hi: 16384}, 1 << 29},
		{api.Dual{Hi: 16384}, api.Dual{Hi: -8192}, -1 << 28},
		{api.Dual{Hi: 3}, api.Dual{Lo: 32767}, 4},
		{api.Dual{Hi: -3}, api.Dual{Lo: 32767}, -6},
		{api.Dual{Lo: 32767}, api.Dual{Hi: 3}, 4},
		{api.Dual{Lo: 32767}, api.Dual{Hi: -3}, -6},
		{api.Dual{Lo: 32767}, api.Dual{Lo: 32767}, 0},
		{api.Dual{Hi: -1}, api.Dual{Lo: 1}, -2},
		{api.Dual{Hi: 1883, Lo: 26250}, api.Dual{Hi: -1884, Lo: 6517}, -7097416},
		{api.Dual{Hi: -32768}, api.Dual{Hi: -32768}, 1<<31 - 1},
		{api.Dual{Hi: -32768, Lo: 1}, api.Dual{Hi: -32768}, 1<<31 - 3},
		{api.Dual{Hi: -32768}, api.Dual{Hi: -32768, Lo: 1}, 1<<31 - 3},
		{api.Dual{Hi: -32768, Lo: 32767}, api.Dual{Hi: -32768, Lo: 32767}, 1<<31 - 1 - 2*65534},
		{api.Dual{Hi: 32767, Lo: 32767}, api.Dual{Hi: 32767, Lo: 32767}, 2147483642},
		{api.Dual{Hi: -32768}, api.Dual{Hi: 32767, Lo: 32767}, -2147483646},
	} {
		if got, e := dual.Mul(x.a, x.b); got != x.want || e != api.OK {
			t.Errorf("Mul(%v, %v): %d, %d; wanted %d", x.a, x.b, got, e, x.want)
		}
	}
}

// product is what P2.2 says, of numbers without bounds that are stopped on the way.
func product(a, b api.Dual) int {
	times := func(x, y int) *big.Int { return new(big.Int).Mul(wide(x), wide(y)) }
	sum := clamp(new(big.Int).Lsh(times(a.Hi, b.Hi), 1), 32)
	for _, p := range []*big.Int{times(a.Hi, b.Lo), times(a.Lo, b.Hi)} {
		part := clamp(new(big.Int).Rsh(p, 15), 16)
		sum = clamp(new(big.Int).Add(sum, new(big.Int).Lsh(part, 1)), 32)
	}
	return int(sum.Int64())
}

// P2.2, against numbers without bounds.
func TestMulOfAll(t *testing.T) {
	for _, a := range goodDuals() {
		for _, b := range goodDuals() {
			if got, e := dual.Mul(a, b); got != product(a, b) || e != api.OK {
				t.Errorf("Mul(%v, %v): %d, %d; wanted %d", a, b, got, e, product(a, b))
			}
		}
	}
}

// P2.1: the bounds hold of either operand of Mul.
func TestMulRefuses(t *testing.T) {
	good := api.Dual{Hi: 1, Lo: 1}
	for _, bad := range badDuals() {
		for _, x := range [][2]api.Dual{{bad, good}, {good, bad}, {bad, bad}, {bad, {}}, {{}, bad}} {
			if got, e := dual.Mul(x[0], x[1]); got != 0 || e != api.ErrRange {
				t.Errorf("Mul(%v, %v): %d, %d; wanted 0, ErrRange", x[0], x[1], got, e)
			}
		}
	}
}

// P2.3
func TestDiv(t *testing.T) {
	for _, x := range []struct {
		a, b, want int
		e          api.Errno
	}{
		{0, 1, 0, api.OK},
		{1, 1, 32767, api.OK},
		{1, 2, 16384, api.OK},
		{1, 3, 10922, api.OK},
		{2, 3, 21845, api.OK},
		{0, 32767, 0, api.OK},
		{1, 32767, 1, api.OK},
		{32766, 32767, 32766, api.OK},
		{16383, 32767, 16383, api.OK},
		{16384, 32767, 16384, api.OK},
		{32767, 32767, 32767, api.OK},

		{1, 0, 0, api.ErrZero},
		{0, 0, 0, api.ErrZero},
		{1, -1, 0, api.ErrZero},
		{-1, -1, 0, api.ErrZero},
		{1, 32768, 0, api.ErrZero},
		{32768, 32768, 0, api.ErrZero},
		{1, most, 0, api.ErrZero},
		{1, least, 0, api.ErrZero},
		{least, least, 0, api.ErrZero},
		{-1, 0, 0, api.ErrZero},
		{9, -3, 0, api.ErrZero},
		{-1, 32768, 0, api.ErrZero},

		{2, 1, 0, api.ErrRange},
		{-1, 1, 0, api.ErrRange},
		{32768, 32767, 0, api.ErrRange},
		{-1, 32767, 0, api.ErrRange},
		{most, 5, 0, api.ErrRange},
		{least, 5, 0, api.ErrRange},
	} {
		if got, e := dual.Div(x.a, x.b); got != x.want || e != x.e {
			t.Errorf("Div(%d, %d): %d, %d; wanted %d, %d", x.a, x.b, got, e, x.want, x.e)
		}
	}
}

// P2.3: a quotient is the greatest one that is not too much, and below one.
func TestDivOfAll(t *testing.T) {
	for _, b := range []int{1, 2, 3, 5, 7, 181, 1000, 16383, 16384, 16385, 32749, 32766, 32767} {
		for a := 0; a <= b; a++ {
			q, e := dual.Div(a, b)
			if a == b {
				if q != 32767 || e != api.OK {
					t.Errorf("Div(%d, %d): %d, %d", a, b, q, e)
				}
				continue
			}
			if e != api.OK || q*b > a*32768 || (q+1)*b <= a*32768 {
				t.Errorf("Div(%d, %d): %d, %d", a, b, q, e)
			}
		}
	}
}

// P2.4
func TestRoot(t *testing.T) {
	for a, want := range map[int]int{0: 0, 1: 1, 2: 1, 3: 1, 4: 2, 8: 2, 9: 3, 15: 3, 16: 4, 1000000: 1000, 999999: 999, 1 << 30: 32768, 1<<30 - 1: 32767, 46340 * 46340: 46340, 46340*46340 - 1: 46339, 1<<31 - 1: 46340} {
		if got, e := dual.Root(a); got != want || e != api.OK {
			t.Errorf("Root(%d): %d, %d; wanted %d", a, got, e, want)
		}
	}
	for _, a := range []int{-1, -4, -1 << 31, least, 1 << 31, 1 << 32, 1 << 40, most} {
		if got, e := dual.Root(a); got != 0 || e != api.ErrRange {
			t.Errorf("Root(%d): %d, %d; wanted 0, ErrRange", a, got, e)
		}
	}
}

// P2.4: at every square, and beside it, and at others.
func TestRootOfAll(t *testing.T) {
	check := func(a int) {
		want := new(big.Int).Sqrt(wide(a))
		if got, e := dual.Root(a); wide(got).Cmp(want) != 0 || e != api.OK {
			t.Errorf("Root(%d): %d, %d; wanted %d", a, got, e, want)
		}
	}
	for r := 1; r <= 46340; r++ {
		check(r*r - 1)
		check(r * r)
	}
	for _, a := range mixed(5000) {
		check(a)
	}
}
