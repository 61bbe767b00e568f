package pitch_test

import (
	"math/big"
	"testing"

	"voxsat/api"
	"voxsat/pitch"
)

// stands are what the numbers of a pitch gain stand for.
func stands() []int { return []int{0, 3277, 6554, 9830, 12452, 14746, 16384, 18022} }

// P7.4
func TestGain(t *testing.T) {
	for n, want := range stands() {
		if g, errno := pitch.Gain(n); g != want || errno != api.OK {
			t.Errorf("Gain(%d): %d, %d; wanted %d", n, g, errno, want)
		}
	}
	for _, n := range []int{-1, 8, -8, 9, 16, 1 << 31, -1 << 31, 1 << 32, 1<<32 + 3, 1 << 61, -1 << 61, most, least} {
		if g, errno := pitch.Gain(n); g != 0 || errno != api.ErrRange {
			t.Errorf("Gain(%d): %d, %d", n, g, errno)
		}
	}
}

// closest is Nearest by numbers without bounds.
func closest(c, e int) int {
	if c <= 0 || e <= 0 {
		return 0
	}
	g := stands()
	for n := 7; n >= 1; n-- {
		left := new(big.Int).Mul(big.NewInt(2*16384), big.NewInt(int64(min(c, 1<<40))))
		right := new(big.Int).Mul(big.NewInt(int64(g[n]+g[n-1])), big.NewInt(int64(min(e, 1<<40))))
		if left.Cmp(right) > 0 {
			return n
		}
	}
	return 0
}

// P7.5: numbers that were worked out by hand. With e of 32768, c is held against a gain and the one below it, added.
func TestNearestByHand(t *testing.T) {
	for _, x := range []struct{ c, e, want int }{
		{1, 32768, 0},
		{3277, 32768, 0},
		{3278, 32768, 1},
		{9831, 32768, 1},
		{9832, 32768, 2},
		{16384, 32768, 2},
		{16385, 32768, 3},
		{22282, 32768, 3},
		{22283, 32768, 4},
		{27198, 32768, 4},
		{27199, 32768, 5},
		{31130, 32768, 5},
		{31131, 32768, 6},
		{32768, 32768, 6},
		{34406, 32768, 6},
		{34407, 32768, 7},
		{36044, 32768, 7},
		{1 << 39, 32768, 7},
		{1, 1, 6},
		{1, 2, 2},
		{2, 1, 7},
		{1, 10, 0},
		{11, 100, 1},
		// What is beyond 2^40 counts as 2^40.
		{1 << 40, 1 << 40, 6},
		{1<<40 + 1, 1 << 40, 6},
		{1 << 41, 1 << 40, 6},
		{1 << 40, 1 << 41, 6},
		{most, most, 6},
		{most, 1 << 39, 7},
		{1 << 39, most, 2},
		{1 << 39, 1<<40 - 1, 3},
		{1, most, 0},
		{most, 1, 7},
		// 2^25 times a gain and the one below it, added: c is above that by one, or not yet.
		{31130 << 25, 1 << 40, 5},
		{31130<<25 + 1, 1 << 40, 6},
		{31130 << 25, most, 5},
		{31130<<25 + 1, most, 6},
		{3277 << 25, most, 0},
		{3277<<25 + 1, most, 1},
		// 34406 * 1047166105301 is above 2^55, but not above 2^15 * (2^40 + 1).
		{most, 1047166105301, 6},
		{1<<40 + 1, 1047166105301, 6},
		{1 << 40, 1047166105301, 6},
		{1 << 40, 1047166105300, 7},
	} {
		if n := pitch.Nearest(x.c, x.e); n != x.want {
			t.Errorf("Nearest(%d, %d): %d; wanted %d", x.c, x.e, n, x.want)
		}
	}
}

// P7.5: c or e that is not above 0.
func TestNearestOfNothing(t *testing.T) {
	low := []int{0, -1, -2, -32768, -1 << 40, -1<<40 - 1, -1<<48 - 1, -1<<49 + 1, -1 << 62, least, least + 1}
	for _, x := range low {
		for _, y := range append(low, 1, 2, 32768, 1<<40, 1<<40+1, most) {
			if n := pitch.Nearest(x, y); n != 0 {
				t.Errorf("Nearest(%d, %d): %d", x, y, n)
			}
			if n := pitch.Nearest(y, x); n != 0 {
				t.Errorf("Nearest(%d, %d): %d", y, x, n)
			}
		}
	}
}

// P7.5, against numbers without bounds: beside every middle of two gains, at every size.
func TestNearestOfAll(t *testing.T) {
	g := stands()
	for width := range 63 {
		for _, e := range []int{1 << width, 1<<width + 1, 1<<width - 1, 1<<width + 1<<width/3} {
			for n := 1; n <= 7; n++ {
				middle := new(big.Int).Mul(big.NewInt(int64(g[n]+g[n-1])), big.NewInt(int64(e)))
				c := int(middle.Rsh(middle, 15).Int64())
				for d := -2; d <= 2; d++ {
					if got := pitch.Nearest(c+d, e); got != closest(c+d, e) {
						t.Errorf("Nearest(%d, %d): %d; wanted %d", c+d, e, got, closest(c+d, e))
					}
				}
			}
		}
	}
	for c := range 300 {
		for e := range 300 {
			if got := pitch.Nearest(c, e); got != closest(c, e) {
				t.Errorf("Nearest(%d, %d): %d; wanted %d", c, e, got, closest(c, e))
			}
		}
	}
}
