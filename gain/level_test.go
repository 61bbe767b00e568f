package gain_test

import (
	"math"
	"math/big"
	"testing"

	"voxsat/api"
	"voxsat/dual"
	"voxsat/gain"
)

const most, least = math.MaxInt64, math.MinInt64

// sizes are what the numbers of a code gain stand for.
func sizes() []int {
	return []int{
		8, 10, 13, 17, 22, 29, 38, 49, 64, 82, 107, 139, 181, 234, 304, 394,
		512, 663, 861, 1116, 1448, 1878, 2435, 3158, 4096, 5311, 6888, 8933, 11585, 15024, 19483, 25267,
	}
}

// P9.1: every number, and that eight numbers further the size is eight times as great, but for what was rounded.
func TestLevel(t *testing.T) {
	l := sizes()
	if len(l) != 32 {
		t.Fatalf("%d sizes", len(l))
	}
	for n, want := range l {
		if g, errno := gain.Level(n); g != want || errno != api.OK {
			t.Errorf("Level(%d): %d, %d; wanted %d", n, g, errno, want)
		}
		if n >= 8 && want/8 != l[n-8] {
			t.Errorf("size %d: %d; eight numbers ahead %d", n, want, l[n-8])
		}
	}
}

// P9.1, in the chapter's own words: each number's power.
func TestLevelIsPow(t *testing.T) {
	for n := range 32 {
		want, _ := dual.Pow(3+(3*n)/8, 4096*((3*n)%8))
		if g, errno := gain.Level(n); g != want || errno != api.OK {
			t.Errorf("Level(%d): %d, %d; wanted %d", n, g, errno, want)
		}
	}
}

// P9.1: numbers that stand for nothing. Three times some of them wraps to one that would.
func TestLevelOfOthers(t *testing.T) {
	third := most/3*2 + 2 // three times this is 2 beyond 2^64
	for _, n := range []int{
		-1, -2, -3, -7, -8, -31, -32, 32, 33, 40, 64, 72, 255, 256, 1 << 16, -1 << 16,
		1 << 31, -1 << 31, 1 << 32, 1<<32 + 5, 1 << 61, 1 << 62, 1<<62 + 1, -1 << 62, third, -third, third + 3, most, most - 1, least, least + 1,
	} {
		if g, errno := gain.Level(n); g != 0 || errno != api.ErrRange {
			t.Errorf("Level(%d): %d, %d; wanted 0, ErrRange", n, g, errno)
		}
	}
}

// closest is One by numbers without bounds.
func closest(c, e int) int {
	if c <= 0 || e <= 0 {
		return 0
	}
	twice := new(big.Int).Lsh(big.NewInt(int64(min(c, 1<<60))), 1)
	l := sizes()
	for n := 31; n >= 1; n-- {
		middle := big.NewInt(int64(l[n] + l[n-1]))
		if twice.Cmp(middle.Mul(middle, big.NewInt(int64(min(e, 1<<44))))) > 0 {
			return n
		}
	}
	return 0
}

// P9.2: numbers that were worked out by hand. With e of 2, c is held against a size and the one below it, added.
func TestOneByHand(t *testing.T) {
	for _, x := range []struct{ c, e, want int }{
		{1, 1, 0},
		{8, 1, 0},
		{9, 1, 0}, // as near to 8 as to 10
		{10, 1, 1},
		{11, 1, 1},
		{12, 1, 2},
		{13, 1, 2},
		{15, 1, 2}, // as near to 13 as to 17
		{16, 1, 3},
		{64, 1, 8},
		{25267, 1, 31},
		{22375, 1, 30}, // as near to 19483 as to 25267
		{22376, 1, 31},
		{1 << 40, 1, 31},
		{18, 2, 0},
		{19, 2, 1},
		{23, 2, 1},
		{24, 2, 2},
		{30, 2, 2},
		{31, 2, 3},
		{44750, 2, 30},
		{44751, 2, 31},
		{90, 10, 0},
		{91, 10, 1},
		{1, 2, 0},
		{1, most, 0},
		{most, 1, 31},
		// e beyond 2^44 counts as 2^44.
		{9 << 44, 1 << 44, 0},
		{9<<44 + 1, 1 << 44, 1},
		{9<<44 + 1, 1<<44 + 1, 1},
		{9<<44 + 1, 1 << 45, 1},
		{9<<44 + 1, 1 << 62, 1},
		{9<<44 + 1, most, 1},
		{9 << 44, most, 0},
		{9 << 44, 1<<44 - 1, 1},
		{22375 << 44, 1 << 44, 30},
		{22375<<44 + 1, 1 << 44, 31},
		{22375 << 44, most, 30},
		{22375<<44 + 1, most, 31},
		{22375 << 44, 1<<44 - 1, 31},
		// c beyond 2^60 counts as 2^60: twice a c from 2^62 on would wrap.
		{1 << 60, 1 << 44, 31},
		{1<<60 + 1, 1 << 44, 31},
		{1<<61 - 1, 1 << 44, 31},
		{1 << 61, 1 << 44, 31},
		{1 << 62, 1 << 44, 31},
		{1<<62 + 1, 1, 31},
		{most, 1 << 44, 31},
		{most, most, 31},
		{1 << 62, most, 31},
	} {
		if n := gain.One(x.c, x.e); n != x.want {
			t.Errorf("One(%d, %d): %d; wanted %d", x.c, x.e, n, x.want)
		}
	}
}

// P9.2: c or e that is not above 0.
func TestOneOfNothing(t *testing.T) {
	low := []int{0, -1, -2, -9, -32768, -1 << 44, -1<<44 - 1, -1 << 60, -1<<60 - 1, -1<<61 - 1, -1 << 62, -1<<62 - 1, least, least + 1}
	for _, x := range low {
		for _, y := range append(low, 1, 2, 100, 32768, 1<<44, 1<<44+1, 1<<60, 1<<60+1, 1<<62, most) {
			if n := gain.One(x, y); n != 0 {
				t.Errorf("One(%d, %d): %d; wanted 0", x, y, n)
			}
			if n := gain.One(y, x); n != 0 {
				t.Errorf("One(%d, %d): %d; wanted 0", y, x, n)
			}
		}
	}
}

// P9.2, against numbers without bounds: beside every size and every middle of two sizes, with e of every length.
func TestOneOfAll(t *testing.T) {
	l := sizes()
	for width := range 63 {
		for _, e := range []int{1 << width, 1<<width + 1, 1<<width - 1, 1<<width + 1<<width/3} {
			bounded := min(e, 1<<44)
			for n, size := range l {
				near := []int{size * bounded}
				if n > 0 {
					near = append(near, (size+l[n-1])*bounded/2)
				}
				for _, c := range near {
					for d := -2; d <= 2; d++ {
						if got, want := gain.One(c+d, e), closest(c+d, e); got != want {
							t.Errorf("One(%d, %d): %d; wanted %d", c+d, e, got, want)
						}
					}
				}
			}
		}
	}
	for c := range 700 {
		for e := range 40 {
			if got, want := gain.One(c, e), closest(c, e); got != want {
				t.Errorf("One(%d, %d): %d; wanted %d", c, e, got, want)
			}
		}
	}
}

// P9.2: the number of a size that a Level stands for is that Level's, whatever e is.
func TestOneOfLevels(t *testing.T) {
	for n := range 32 {
		level, _ := gain.Level(n)
		for _, e := range []int{1, 2, 3, 1000, 1<<31 - 1, 1 << 44} {
			if got := gain.One(level*e, e); got != n {
				t.Errorf("One(%d, %d): %d; wanted %d", level*e, e, got, n)
			}
		}
	}
}
