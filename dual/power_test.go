package dual_test

import (
	"math"
	"math/big"
	"testing"

	"voxsat/api"
	"voxsat/dual"
)

// P2.5
func TestLog(t *testing.T) {
	for _, x := range []struct{ a, n, f int }{
		{1, 0, 0},
		{2, 1, 0},
		{3, 1, 19168},
		{4, 2, 0},
		{5, 2, 10548},
		{7, 2, 26455},
		{10, 3, 10548},
		{1000, 9, 31646},
		{32768, 15, 0},
		{65535, 15, 32767},
		{65536, 16, 0},
		{12345678, 23, 18268},
		{1<<30 - 1, 29, 32767},
		{1 << 30, 30, 0},
		{1<<30 + 1, 30, 0},
		{1518500249, 30, 16383},
		{1518500250, 30, 16384},
		{1<<31 - 2, 30, 32767},
		{1<<31 - 1, 30, 32767},

		// Here the lowest bit hangs on what is rounded down on the way.
		{1274068460, 30, 8086},
		{1368149613, 30, 11454},
		{1557077760, 30, 17569},
		{1608159852, 30, 19095},
	} {
		if n, f, e := dual.Log(x.a); n != x.n || f != x.f || e != api.OK {
			t.Errorf("Log(%d): %d, %d, %d; wanted %d, %d", x.a, n, f, e, x.n, x.f)
		}
	}
	for _, a := range []int{0, -1, -8, -1 << 31, least, 1 << 31, 1<<31 + 1, 1 << 32, 1 << 40, most} {
		if n, f, e := dual.Log(a); n != 0 || f != 0 || e != api.ErrRange {
			t.Errorf("Log(%d): %d, %d, %d; wanted 0, 0, ErrRange", a, n, f, e)
		}
	}
}

// logarithm is what P2.5 says, step by step, of numbers without bounds.
func logarithm(a int) (int, int) {
	n := 0
	for a >= 1<<(n+1) {
		n++
	}
	x := new(big.Int).Mul(wide(a), new(big.Int).Lsh(big.NewInt(1), uint(30-n)))
	f := 0
	for bit := 1 << 14; bit > 0; bit /= 2 {
		x.Rsh(x.Mul(x, x), 30)
		if x.Cmp(wide(1<<31)) >= 0 {
			f += bit
			x.Rsh(x, 1)
		}
	}
	return n, f
}

// P2.5: against the steps, and against the logarithm itself.
func TestLogOfAll(t *testing.T) {
	l := mixed(20000)
	for n := range 31 {
		l = append(l, 1<<n, 1<<n+1, 1<<n-1, 3<<n/2, 1<<(n+1)-1)
	}
	for _, a := range l {
		if a < 1 {
			continue
		}
		n, f := logarithm(a)
		gotN, gotF, e := dual.Log(a)
		if gotN != n || gotF != f || e != api.OK {
			t.Errorf("Log(%d): %d, %d, %d; wanted %d, %d", a, gotN, gotF, e, n, f)
		}
		if d := math.Log2(float64(a))*32768 - float64(gotN*32768+gotF); d < -0.01 || d > 1.1 {
			t.Errorf("Log(%d): %d, %d, which is off by %v", a, gotN, gotF, d)
		}
	}
}

// P2.6
func TestPow(t *testing.T) {
	for _, x := range []struct{ n, f, want int }{
		{0, 0, 1},
		{0, 32767, 1},
		{1, 0, 2},
		{1, 19168, 2},
		{3, 10548, 9},
		{3, 12288, 10},
		{10, 16384, 1448},
		{14, 16384, 23170},
		{15, 1, 32768},
		{29, 32767, 1073719100},
		{30, 0, 1 << 30},
		{30, 1, 1073764537},
		{30, 15, 1074082571},
		{30, 10922, 1352810840},
		{30, 16384, 1518500249},
		{30, 21845, 1704446873},
		{30, 32767, 2147438200},
	} {
		if got, e := dual.Pow(x.n, x.f); got != x.want || e != api.OK {
			t.Errorf("Pow(%d, %d): %d, %d; wanted %d", x.n, x.f, got, e, x.want)
		}
	}
	for _, x := range [][2]int{{-1, 0}, {31, 0}, {32, 0}, {64, 1}, {least, 0}, {most, 0}, {0, -1}, {0, 32768}, {30, 32768}, {30, 65536}, {5, least}, {5, most}, {-1, -1}, {31, 32768}, {least, most}} {
		if got, e := dual.Pow(x[0], x[1]); got != 0 || e != api.ErrRange {
			t.Errorf("Pow(%d, %d): %d, %d; wanted 0, ErrRange", x[0], x[1], got, e)
		}
	}
}

// P2.6: with one bit alone x is 2^30 and that bit's number.
func TestPowOfOneBit(t *testing.T) {
	for i, r := range []int{444758425, 203159592, 97181937, 47538611, 23511884, 11692281, 5830311, 2911209, 1454619, 727063, 363470, 181719, 90856, 45427, 22713} {
		f := 1 << (14 - i)
		if got, e := dual.Pow(30, f); got != 1<<30+r || e != api.OK {
			t.Errorf("Pow(30, %d): %d, %d; wanted %d", f, got, e, 1<<30+r)
		}
	}
}

// power is what P2.6 says, step by step, of numbers without bounds; what a bit
// adds is worked out as a root of a root, and so on, rounded down.
func power(n, f int) *big.Int {
	x := wide(1 << 30)
	root := new(big.Int).Lsh(big.NewInt(2), 400) // 2^400 being one
	for i := range 15 {
		root.Sqrt(root.Lsh(root, 400))
		r := new(big.Int).Rsh(root, 400-30)
		r.Sub(r, wide(1<<30))
		if f&(1<<(14-i)) != 0 {
			x.Add(x, new(big.Int).Rsh(new(big.Int).Mul(x, r), 30))
		}
	}
	x.Rsh(x, uint(30-n))
	if x.Cmp(wide(1<<31-1)) > 0 {
		return wide(1<<31 - 1)
	}
	return x
}

// P2.6, at every length and many fractions.
func TestPowOfAll(t *testing.T) {
	for n := range 31 {
		for f := n; f <= 32767; f += 97 {
			if got, e := dual.Pow(n, f); power(n, f).Cmp(wide(got)) != 0 || e != api.OK {
				t.Errorf("Pow(%d, %d): %d, %d; wanted %d", n, f, got, e, power(n, f))
			}
		}
	}
}

// P2.5, P2.6: a power of what Log told is hardly less than the number, never more.
func TestPowOfLog(t *testing.T) {
	for _, a := range mixed(5000) {
		if a < 1 {
			continue
		}
		n, f, _ := dual.Log(a)
		got, e := dual.Pow(n, f)
		if e != api.OK || got > a || a-got > a>>13+1 {
			t.Errorf("Pow of Log(%d): %d, %d", a, got, e)
		}
	}
}
