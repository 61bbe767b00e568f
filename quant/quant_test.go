package quant_test

import (
	"math"
	"math/big"
	"testing"

	"voxsat/api"
	"voxsat/quant"
)

type eight = [api.Order]int

// bits is what the chapter says of Width.
func bits() eight { return eight{6, 6, 5, 5, 4, 4, 3, 3} }

// noReflections are places where there is no reflection, some only just.
func noReflections() []int {
	return []int{-1, 8, -2, 9, -8, 16, 63, 64, 255, 256, -256, 1 << 31, -1 << 31, 1 << 32, 1<<32 + 5, -1<<32 + 5, math.MaxInt, math.MinInt}
}

// tooFar are no reflections, some only just.
func tooFar() []int {
	return []int{32769, -32769, 65535, 65536, -65536, 1 << 31, -1 << 31, 1 << 32, 1<<32 + 5, -1<<32 + 5, 1 << 62, math.MaxInt, math.MinInt, math.MinInt + 1}
}

// beyond are what the reflection i has no number for, some only just.
func beyond(i int) []int {
	all := 1 << bits()[i]
	return []int{-1, all, -2, all + 1, 2 * all, -all, 1 << 16, 1 << 31, -1 << 31, 1 << 32, 1<<32 + 5, -1<<32 + 5, math.MaxInt, math.MinInt}
}

// levels are the levels of the reflection i, by the chapter's words and numbers without bounds.
func levels(i int) []int {
	all := 1 << bits()[i]
	l := make([]int, all)
	for n := all / 2; n < all; n++ {
		r := big.NewInt(int64(2*(all-n) - 1))
		x := new(big.Int).Mul(r, r)
		x.Mul(x, big.NewInt(31000))
		x.Quo(x, big.NewInt(int64(all*all)))
		l[n] = 31000 - int(x.Int64())
	}
	for n := range all / 2 {
		l[n] = -l[all-1-n]
	}
	return l
}

// nearest is the number of the level that is nearest to k: from above, so that of two the smaller one stays.
func nearest(l []int, k int) int {
	best, gap := -1, math.MaxInt
	for n := len(l) - 1; n >= 0; n-- {
		d := l[n] - k
		if d < 0 {
			d = -d
		}
		if d <= gap {
			best, gap = n, d
		}
	}
	return best
}

// P5.1: every reflection, and where there is none.
func TestWidth(t *testing.T) {
	for i, want := range bits() {
		if w := quant.Width(i); w != want {
			t.Errorf("Width(%d): %d; wanted %d", i, w, want)
		}
	}
	for _, i := range noReflections() {
		if w := quant.Width(i); w != 0 {
			t.Errorf("Width(%d): %d; wanted 0", i, w)
		}
	}
}

// P5.2: numbers that were worked out by hand.
func TestLevelByHand(t *testing.T) {
	for _, x := range []struct {
		i    int
		want []int
	}{
		// 31000 * 49 / 64 is 23734.375, * 25 12109.375, * 9 4359.375, * 1 484.375.
		{7, []int{-30516, -26641, -18891, -7266, 7266, 18891, 26641, 30516}},
		{6, []int{-30516, -26641, -18891, -7266, 7266, 18891, 26641, 30516}},
		// 31000 * 169 / 256 is 20464.84: it is not rounded up.
		{5, []int{-30879, -29911, -27973, -25067, -21192, -16348, -10536, -3754, 3754, 10536, 16348, 21192, 25067, 27973, 29911, 30879}},
		{4, []int{-30879, -29911, -27973, -25067, -21192, -16348, -10536, -3754, 3754, 10536, 16348, 21192, 25067, 27973, 29911, 30879}},
	} {
		for n, want := range x.want {
			if v, errno := quant.Level(x.i, n); v != want || errno != api.OK {
				t.Errorf("Level(%d, %d): %d, %d; wanted %d", x.i, n, v, errno, want)
			}
		}
	}
	for _, x := range []struct{ i, n, want int }{
		// 31000 * 961 / 1024 is 29092.77, 31000 / 1024 is 30.27.
		{3, 16, 1908}, {3, 15, -1908}, {2, 31, 30970}, {2, 0, -30970},
		// 31000 * 3969 / 4096 is 30038.81, 31000 * 9 / 4096 is 68.11, 31000 / 4096 is 7.57.
		{1, 32, 962}, {1, 31, -962}, {0, 62, 30932}, {0, 1, -30932}, {0, 63, 30993}, {0, 0, -30993},
	} {
		if v, errno := quant.Level(x.i, x.n); v != x.want || errno != api.OK {
			t.Errorf("Level(%d, %d): %d, %d; wanted %d", x.i, x.n, v, errno, x.want)
		}
	}
}

// P5.2: every number of every reflection, against numbers without bounds.
func TestLevelOfAll(t *testing.T) {
	for i := range api.Order {
		for n, want := range levels(i) {
			if v, errno := quant.Level(i, n); v != want || errno != api.OK {
				t.Errorf("Level(%d, %d): %d, %d; wanted %d", i, n, v, errno, want)
			}
		}
	}
}

// P5.2: wrong numbers; that there is no reflection is told ahead of the rest.
func TestLevelRefuses(t *testing.T) {
	for i := range api.Order {
		for _, n := range beyond(i) {
			if v, errno := quant.Level(i, n); v != 0 || errno != api.ErrRange {
				t.Errorf("Level(%d, %d): %d, %d", i, n, v, errno)
			}
		}
	}
	for _, i := range noReflections() {
		for _, n := range append(beyond(0), 0, 1, 7, 8, 63) {
			if v, errno := quant.Level(i, n); v != 0 || errno != api.ErrKind {
				t.Errorf("Level(%d, %d): %d, %d", i, n, v, errno)
			}
		}
	}
}

// P5.3: where two levels are as near, and just beside it.
func TestOneByHand(t *testing.T) {
	for _, x := range []struct{ i, k, want int }{
		{0, -1, 31}, {0, 0, 31}, {0, 1, 32},
		{7, -1, 3}, {7, 0, 3}, {7, 1, 4},
		// Between 10536 and 16348 lies 13442.
		{5, 13441, 9}, {5, 13442, 9}, {5, 13443, 10},
		{5, -13441, 6}, {5, -13442, 5}, {5, -13443, 5},
		// Between 7266 and 18891 lies 13078.5: no k is as near to both.
		{7, 13078, 4}, {7, 13079, 5}, {7, -13078, 3}, {7, -13079, 2},
		// Beyond the levels, to the ends.
		{0, 31000, 63}, {0, -31000, 0}, {0, 32767, 63}, {0, 32768, 63}, {0, -32767, 0}, {0, -32768, 0},
		{7, 32768, 7}, {7, -32768, 0}, {4, 32768, 15}, {3, 32768, 31}, {2, -32768, 0},
	} {
		if n, errno := quant.One(x.i, x.k); n != x.want || errno != api.OK {
			t.Errorf("One(%d, %d): %d, %d; wanted %d", x.i, x.k, n, errno, x.want)
		}
	}
}

// P5.3: every k of every reflection.
func TestOneOfAll(t *testing.T) {
	for i := range api.Order {
		l := levels(i)
		for k := -32768; k <= 32768; k++ {
			if n, errno := quant.One(i, k); n != nearest(l, k) || errno != api.OK {
				t.Fatalf("One(%d, %d): %d, %d; wanted %d", i, k, n, errno, nearest(l, k))
			}
		}
	}
}

// P5.3: every level leads back to its number.
func TestOneOfLevels(t *testing.T) {
	for i := range api.Order {
		for n := range 1 << bits()[i] {
			v, _ := quant.Level(i, n)
			if back, errno := quant.One(i, v); back != n || errno != api.OK {
				t.Errorf("One(%d, Level %d): %d, %d", i, n, back, errno)
			}
		}
	}
}

// P5.3: wrong numbers; that there is no reflection is told ahead of the rest.
func TestOneRefuses(t *testing.T) {
	for i := range api.Order {
		for _, k := range tooFar() {
			if n, errno := quant.One(i, k); n != 0 || errno != api.ErrRange {
				t.Errorf("One(%d, %d): %d, %d", i, k, n, errno)
			}
		}
	}
	for _, i := range noReflections() {
		for _, k := range append(tooFar(), 0, 1, -1, 31000, 32768, -32768) {
			if n, errno := quant.One(i, k); n != 0 || errno != api.ErrKind {
				t.Errorf("One(%d, %d): %d, %d", i, k, n, errno)
			}
		}
	}
}
