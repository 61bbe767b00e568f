package basic_test

import (
	"fmt"
	"math"
	"math/big"
	"testing"

	"voxsat/basic"
)

type pair struct {
	n    int
	over bool
}

func pairOf(n int, over bool) pair { return pair{n, over} }

// edges are numbers beside those at which something changes: 0, the ends of 15,
// 16, 31 and 32 bits, and those of 64.
func edges() []int {
	l := []int{math.MinInt64, math.MinInt64 + 1, math.MaxInt64 - 1, math.MaxInt64, 3, -3, 5, -5, 181, -181, 12345, -12345, 23170, 23171, -23170, -23171, 0x18000, -0x18000, 123456789, -123456789}
	for _, n := range []int{0, 1, 8, 14, 15, 16, 17, 29, 30, 31, 32, 33, 40, 62} {
		for d := -2; d <= 2; d++ {
			l = append(l, 1<<n+d, -1<<n+d)
		}
	}
	return l
}

// shifts are numbers of places: all near ones, and the far ones.
func shifts() []int {
	l := []int{1 << 15, -1 << 15, 1 << 16, -1 << 16, 1 << 31, -1 << 31, 1 << 32, -1 << 32, 1<<32 + 1, 1 << 40, -1 << 40, math.MaxInt64, -math.MaxInt64, math.MinInt64, math.MinInt64 + 1}
	for n := -70; n <= 70; n++ {
		l = append(l, n)
	}
	return l
}

// stopped is x, stopped at so many bits, without any bound of 64 bits on the way.
func stopped(x *big.Int, width uint) pair {
	least := new(big.Int).Lsh(big.NewInt(-1), width-1)
	most := new(big.Int).Sub(new(big.Int).Neg(least), big.NewInt(1))
	if x.Cmp(least) < 0 {
		return pair{int(least.Int64()), true}
	}
	if x.Cmp(most) > 0 {
		return pair{int(most.Int64()), true}
	}
	return pair{int(x.Int64()), false}
}

func wide(x int) *big.Int { return big.NewInt(int64(x)) }

// operand is a number that has been stopped ahead of an operation.
func operand(x int, width uint) *big.Int { return wide(stopped(wide(x), width).n) }

// shifted is a times 2^n, rounded down: beyond 200 places nothing changes any more.
func shifted(a *big.Int, n int) *big.Int {
	if n >= 0 {
		return new(big.Int).Lsh(a, uint(min(n, 200)))
	}
	return new(big.Int).Rsh(a, uint(-max(n, -200)))
}

func same(t *testing.T, name string, got, want pair) {
	t.Helper()
	if got != want {
		t.Errorf("%s: %d, %v; wanted %d, %v", name, got.n, got.over, want.n, want.over)
	}
}

// P1.1
func TestStop(t *testing.T) {
	for _, x := range []struct {
		x      int
		at16   pair
		at32   pair
		remark string
	}{
		{0, pair{0, false}, pair{0, false}, "nought"},
		{-7, pair{-7, false}, pair{-7, false}, "within both"},
		{32767, pair{32767, false}, pair{32767, false}, "the greatest of 16"},
		{32768, pair{32767, true}, pair{32768, false}, "one above"},
		{-32768, pair{-32768, false}, pair{-32768, false}, "the least of 16"},
		{-32769, pair{-32768, true}, pair{-32769, false}, "one below"},
		{1<<31 - 1, pair{32767, true}, pair{1<<31 - 1, false}, "the greatest of 32"},
		{1 << 31, pair{32767, true}, pair{1<<31 - 1, true}, "one above"},
		{-1 << 31, pair{-32768, true}, pair{-1 << 31, false}, "the least of 32"},
		{-1<<31 - 1, pair{-32768, true}, pair{-1 << 31, true}, "one below"},
		{math.MaxInt64, pair{32767, true}, pair{1<<31 - 1, true}, "the greatest of all"},
		{math.MinInt64, pair{-32768, true}, pair{-1 << 31, true}, "the least of all"},
	} {
		same(t, "Sat16, "+x.remark, pairOf(basic.Sat16(x.x)), x.at16)
		same(t, "Sat32, "+x.remark, pairOf(basic.Sat32(x.x)), x.at32)
	}
	for _, x := range edges() {
		same(t, fmt.Sprintf("Sat16(%d)", x), pairOf(basic.Sat16(x)), stopped(wide(x), 16))
		same(t, fmt.Sprintf("Sat32(%d)", x), pairOf(basic.Sat32(x)), stopped(wide(x), 32))
	}
}

// P1.1: that what goes in was stopped is not told.
func TestOperandsAreStoppedSilently(t *testing.T) {
	const most, least = math.MaxInt64, math.MinInt64
	for _, x := range []struct {
		name      string
		got, want pair
	}{
		{"Add", pairOf(basic.Add(most, -1)), pair{32766, false}},
		{"Add, both", pairOf(basic.Add(most, least)), pair{-1, false}},
		{"Sub", pairOf(basic.Sub(-5, 40000)), pair{-32768, true}},
		{"Sub, both", pairOf(basic.Sub(most, most)), pair{0, false}},
		{"LAdd", pairOf(basic.LAdd(most, least)), pair{-1, false}},
		{"LSub", pairOf(basic.LSub(least, least)), pair{0, false}},
		{"Neg", pairOf(basic.Neg(most)), pair{-32767, false}},
		{"Neg, the least", pairOf(basic.Neg(least)), pair{32767, true}},
		{"Abs", pairOf(basic.Abs(most)), pair{32767, false}},
		{"Abs, the least", pairOf(basic.Abs(least)), pair{32767, true}},
		{"Mult", pairOf(basic.Mult(most, 32767)), pair{32766, false}},
		{"LMult", pairOf(basic.LMult(1<<20, 1)), pair{65534, false}},
		{"LMac", pairOf(basic.LMac(most, 1<<20, -1)), pair{1<<31 - 1 - 65534, false}},
		{"LMsu", pairOf(basic.LMsu(least, least, 1)), pair{-1<<31 + 65536, false}},
		{"Shl", pairOf(basic.Shl(1<<40, 0)), pair{32767, false}},
		{"Shl, right", pairOf(basic.Shl(1<<40, -1)), pair{16383, false}},
		{"Shr", pairOf(basic.Shr(least, 15)), pair{-1, false}},
		{"LShl", pairOf(basic.LShl(1<<40, 0)), pair{1<<31 - 1, false}},
		{"LShr", pairOf(basic.LShr(most, 30)), pair{1, false}},
		{"Round", pairOf(basic.Round(least)), pair{-32768, false}},
		{"Norm", pair{basic.Norm(most), false}, pair{0, false}},
		{"Norm, the least", pair{basic.Norm(least), false}, pair{0, false}},
	} {
		same(t, x.name, x.got, x.want)
	}
}

// P1.2
func TestSums(t *testing.T) {
	for _, x := range []struct {
		name      string
		got, want pair
	}{
		{"Add", pairOf(basic.Add(3, -5)), pair{-2, false}},
		{"Add at the end", pairOf(basic.Add(32766, 1)), pair{32767, false}},
		{"Add above", pairOf(basic.Add(32767, 1)), pair{32767, true}},
		{"Add below", pairOf(basic.Add(-32768, -1)), pair{-32768, true}},
		{"Sub", pairOf(basic.Sub(3, 5)), pair{-2, false}},
		{"Sub above", pairOf(basic.Sub(0, -32768)), pair{32767, true}},
		{"Sub at the end", pairOf(basic.Sub(-1, 32767)), pair{-32768, false}},
		{"Neg", pairOf(basic.Neg(-5)), pair{5, false}},
		{"Neg of nought", pairOf(basic.Neg(0)), pair{0, false}},
		{"Neg of the least", pairOf(basic.Neg(-32768)), pair{32767, true}},
		{"Abs", pairOf(basic.Abs(-5)), pair{5, false}},
		{"Abs above 0", pairOf(basic.Abs(6)), pair{6, false}},
		{"Abs of the least but one", pairOf(basic.Abs(-32767)), pair{32767, false}},
		{"Abs of the least", pairOf(basic.Abs(-32768)), pair{32767, true}},
		{"LAdd", pairOf(basic.LAdd(1<<30, 1<<30-1)), pair{1<<31 - 1, false}},
		{"LAdd above", pairOf(basic.LAdd(1<<30, 1<<30)), pair{1<<31 - 1, true}},
		{"LSub", pairOf(basic.LSub(-1<<30, 1<<30)), pair{-1 << 31, false}},
		{"LSub below", pairOf(basic.LSub(-1<<30, 1<<30+1)), pair{-1 << 31, true}},
	} {
		same(t, x.name, x.got, x.want)
	}
	for _, a := range edges() {
		same(t, fmt.Sprintf("Neg(%d)", a), pairOf(basic.Neg(a)), stopped(new(big.Int).Neg(operand(a, 16)), 16))
		same(t, fmt.Sprintf("Abs(%d)", a), pairOf(basic.Abs(a)), stopped(new(big.Int).Abs(operand(a, 16)), 16))
	}
}

// P1.2, P1.3: operations of two numbers, against numbers without bounds.
func TestOfTwo(t *testing.T) {
	add := func(a, b *big.Int) *big.Int { return new(big.Int).Add(a, b) }
	sub := func(a, b *big.Int) *big.Int { return new(big.Int).Sub(a, b) }
	mult := func(a, b *big.Int) *big.Int { return shifted(new(big.Int).Mul(a, b), -15) }
	twice := func(a, b *big.Int) *big.Int { return shifted(new(big.Int).Mul(a, b), 1) }
	for _, x := range []struct {
		name    string
		f       func(a, b int) (int, bool)
		op      func(a, b *big.Int) *big.Int
		in, out uint
	}{
		{"Add", basic.Add, add, 16, 16},
		{"Sub", basic.Sub, sub, 16, 16},
		{"LAdd", basic.LAdd, add, 32, 32},
		{"LSub", basic.LSub, sub, 32, 32},
		{"Mult", basic.Mult, mult, 16, 16},
		{"LMult", basic.LMult, twice, 16, 32},
	} {
		for _, a := range edges() {
			for _, b := range edges() {
				want := stopped(x.op(operand(a, x.in), operand(b, x.in)), x.out)
				same(t, fmt.Sprintf("%s(%d, %d)", x.name, a, b), pairOf(x.f(a, b)), want)
			}
		}
	}
}

// P1.3
func TestProducts(t *testing.T) {
	for _, x := range []struct {
		name      string
		got, want pair
	}{
		{"Mult", pairOf(basic.Mult(16384, 16384)), pair{8192, false}},
		{"Mult, down below 0", pairOf(basic.Mult(-1, 1)), pair{-1, false}},
		{"Mult, down above 0", pairOf(basic.Mult(32767, 1)), pair{0, false}},
		{"Mult of the least", pairOf(basic.Mult(-32768, -32768)), pair{32767, true}},
		{"Mult of the ends", pairOf(basic.Mult(-32768, 32767)), pair{-32767, false}},
		{"LMult", pairOf(basic.LMult(3, -5)), pair{-30, false}},
		{"LMult of the least", pairOf(basic.LMult(-32768, -32768)), pair{1<<31 - 1, true}},
		{"LMult of the ends", pairOf(basic.LMult(-32768, 32767)), pair{-2147418112, false}},
		{"LMult of the greatest", pairOf(basic.LMult(32767, 32767)), pair{2147352578, false}},
	} {
		same(t, x.name, x.got, x.want)
	}
}

// P1.4
func TestGathered(t *testing.T) {
	for _, x := range []struct {
		name      string
		got, want pair
	}{
		{"LMac", pairOf(basic.LMac(10, 2, 3)), pair{22, false}},
		{"LMac, the sum stopped", pairOf(basic.LMac(1<<31-2, 1, 1)), pair{1<<31 - 1, true}},
		{"LMac, at the end", pairOf(basic.LMac(1<<31-3, 1, 1)), pair{1<<31 - 1, false}},
		{"LMac, the product stopped", pairOf(basic.LMac(-10, -32768, -32768)), pair{1<<31 - 11, true}},
		{"LMac, both stopped", pairOf(basic.LMac(1, -32768, -32768)), pair{1<<31 - 1, true}},
		{"LMsu", pairOf(basic.LMsu(10, 2, 3)), pair{-2, false}},
		{"LMsu, the difference stopped", pairOf(basic.LMsu(-1<<31+1, 1, 1)), pair{-1 << 31, true}},
		{"LMsu, the product stopped", pairOf(basic.LMsu(0, -32768, -32768)), pair{-1<<31 + 1, true}},
		{"LMsu, both stopped", pairOf(basic.LMsu(-2, -32768, -32768)), pair{-1 << 31, true}},
	} {
		same(t, x.name, x.got, x.want)
	}
	few := []int{math.MinInt64, -1 << 31, -32769, -32768, -32767, -1, 0, 1, 16384, 32767, 32768, 1<<31 - 1, math.MaxInt64}
	for _, acc := range edges() {
		for _, a := range few {
			for _, b := range few {
				twice := stopped(shifted(new(big.Int).Mul(operand(a, 16), operand(b, 16)), 1), 32)
				more := stopped(new(big.Int).Add(operand(acc, 32), wide(twice.n)), 32)
				less := stopped(new(big.Int).Sub(operand(acc, 32), wide(twice.n)), 32)
				more.over = more.over || twice.over
				less.over = less.over || twice.over
				same(t, fmt.Sprintf("LMac(%d, %d, %d)", acc, a, b), pairOf(basic.LMac(acc, a, b)), more)
				same(t, fmt.Sprintf("LMsu(%d, %d, %d)", acc, a, b), pairOf(basic.LMsu(acc, a, b)), less)
			}
		}
	}
}

// P1.5
func TestShifts(t *testing.T) {
	const most, least = math.MaxInt64, math.MinInt64
	for _, x := range []struct {
		name      string
		got, want pair
	}{
		{"Shl", pairOf(basic.Shl(3, 2)), pair{12, false}},
		{"Shl by 0", pairOf(basic.Shl(-9, 0)), pair{-9, false}},
		{"Shl right, down", pairOf(basic.Shl(-5, -1)), pair{-3, false}},
		{"Shl to the least", pairOf(basic.Shl(-1, 15)), pair{-32768, false}},
		{"Shl beyond", pairOf(basic.Shl(-1, 16)), pair{-32768, true}},
		{"Shl above", pairOf(basic.Shl(1, 15)), pair{32767, true}},
		{"Shl by 64", pairOf(basic.Shl(1, 64)), pair{32767, true}},
		{"Shl by the greatest", pairOf(basic.Shl(-1, most)), pair{-32768, true}},
		{"Shl by the least", pairOf(basic.Shl(-1, least)), pair{-1, false}},
		{"Shl of nought", pairOf(basic.Shl(0, most)), pair{0, false}},
		{"Shr", pairOf(basic.Shr(-5, 1)), pair{-3, false}},
		{"Shr left", pairOf(basic.Shr(5, -2)), pair{20, false}},
		{"Shr by the greatest", pairOf(basic.Shr(5, most)), pair{0, false}},
		{"Shr by the least", pairOf(basic.Shr(1, least)), pair{32767, true}},
		{"Shr by the least, of nought", pairOf(basic.Shr(0, least)), pair{0, false}},
		{"LShl to the least", pairOf(basic.LShl(-1, 31)), pair{-1 << 31, false}},
		{"LShl beyond", pairOf(basic.LShl(-1, 32)), pair{-1 << 31, true}},
		{"LShl above", pairOf(basic.LShl(1, 31)), pair{1<<31 - 1, true}},
		{"LShl by the least", pairOf(basic.LShl(7, least)), pair{0, false}},
		{"LShr", pairOf(basic.LShr(1<<20, 19)), pair{2, false}},
		{"LShr by 31", pairOf(basic.LShr(-1<<31, 31)), pair{-1, false}},
		{"LShr by the least", pairOf(basic.LShr(-1, least)), pair{-1 << 31, true}},
	} {
		same(t, x.name, x.got, x.want)
	}
}

// P1.5, against numbers without bounds.
func TestShiftsOfAll(t *testing.T) {
	for _, a := range edges() {
		for _, n := range shifts() {
			back := math.MaxInt64
			if n != math.MinInt64 {
				back = -n
			}
			a16, a32 := operand(a, 16), operand(a, 32)
			same(t, fmt.Sprintf("Shl(%d, %d)", a, n), pairOf(basic.Shl(a, n)), stopped(shifted(a16, n), 16))
			same(t, fmt.Sprintf("Shr(%d, %d)", a, n), pairOf(basic.Shr(a, n)), stopped(shifted(a16, back), 16))
			same(t, fmt.Sprintf("LShl(%d, %d)", a, n), pairOf(basic.LShl(a, n)), stopped(shifted(a32, n), 32))
			same(t, fmt.Sprintf("LShr(%d, %d)", a, n), pairOf(basic.LShr(a, n)), stopped(shifted(a32, back), 32))
		}
	}
}

// P1.6
func TestRound(t *testing.T) {
	for _, x := range []struct {
		a    int
		want pair
	}{
		{0, pair{0, false}},
		{0x7fff, pair{0, false}},
		{0x8000, pair{1, false}},
		{-0x8000, pair{0, false}},
		{-0x8001, pair{-1, false}},
		{0x18000, pair{2, false}},
		{0x7fff7fff, pair{32767, false}},
		{0x7fff8000, pair{32767, true}},
		{1<<31 - 1, pair{32767, true}},
		{-1 << 31, pair{-32768, false}},
		{math.MaxInt64, pair{32767, true}},
	} {
		same(t, fmt.Sprintf("Round(%d)", x.a), pairOf(basic.Round(x.a)), x.want)
	}
	for _, a := range edges() {
		want := stopped(new(big.Int).Add(operand(a, 32), wide(1<<15)), 32)
		want.n >>= 16
		same(t, fmt.Sprintf("Round(%d)", a), pairOf(basic.Round(a)), want)
	}
}

// P1.7
func TestNorm(t *testing.T) {
	for a, want := range map[int]int{0: 0, 1: 30, 2: 29, 3: 29, -1: 31, -2: 30, -3: 29, 1 << 30: 0, 1<<30 - 1: 1, -1 << 30: 1, -1<<30 - 1: 0, -1 << 31: 0, 1<<31 - 1: 0, 1 << 40: 0, -1 << 40: 0} {
		if n := basic.Norm(a); n != want {
			t.Errorf("Norm(%d): %d; wanted %d", a, n, want)
		}
	}
	for _, a := range edges() {
		if a == 0 {
			continue
		}
		n := basic.Norm(a)
		if x := stopped(shifted(operand(a, 32), n), 32); x.over {
			t.Errorf("Norm(%d): %d, but that is stopped", a, n)
		}
		if x := stopped(shifted(operand(a, 32), n+1), 32); !x.over {
			t.Errorf("Norm(%d): %d, but one more is not stopped", a, n)
		}
	}
}
