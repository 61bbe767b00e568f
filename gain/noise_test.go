package gain_test

import (
	"math/big"
	"testing"

	"voxsat/gain"
)

// P9.3: numbers that were worked out apart from the program, at every number of erased frames.
func TestFadeOfSome(t *testing.T) {
	for g, wants := range map[int][6]int{
		0:     {0, 0, 0, 0, 0, 0},
		1:     {1, 0, 0, 0, 0, 0},
		2:     {2, 1, 0, 0, 0, 0},
		5:     {5, 3, 2, 1, 0, 0},
		1000:  {1000, 799, 639, 511, 408, 326},
		20000: {20000, 15999, 12799, 10239, 8191, 6552},
		32766: {32766, 26212, 20969, 16774, 13418, 10734},
		32767: {32767, 26213, 20970, 16775, 13419, 10735},
		// What is beyond 32767 counts as that.
		32768:      {32767, 26213, 20970, 16775, 13419, 10735},
		40000:      {32767, 26213, 20970, 16775, 13419, 10735},
		1 << 16:    {32767, 26213, 20970, 16775, 13419, 10735},
		1<<32 + 5:  {32767, 26213, 20970, 16775, 13419, 10735},
		1 << 62:    {32767, 26213, 20970, 16775, 13419, 10735},
		most:       {32767, 26213, 20970, 16775, 13419, 10735},
		-1:         {},
		-2:         {},
		-1000:      {},
		-32768:     {},
		-1 << 32:   {},
		-1<<63 + 5: {},
		least:      {},
	} {
		for erased, want := range wants {
			if got := gain.Fade(g, erased); got != want {
				t.Errorf("Fade(%d, %d): %d; wanted %d", g, erased, got, want)
			}
		}
	}
}

// P9.3: from six erased frames on nothing is left; below 0 it is as at 0.
func TestFadeBeyond(t *testing.T) {
	for _, g := range []int{0, 1, 9, 1000, 32767, 32768, most, -1, least} {
		for _, erased := range []int{6, 7, 8, 100, 32768, 1 << 31, 1 << 32, 1 << 62, most} {
			if got := gain.Fade(g, erased); got != 0 {
				t.Errorf("Fade(%d, %d): %d; wanted 0", g, erased, got)
			}
		}
		for _, erased := range []int{-1, -2, -5, -6, -7, -32768, -1 << 31, -1 << 32, -1<<32 + 1, -1 << 62, least, least + 1} {
			if got, want := gain.Fade(g, erased), max(min(g, 32767), 0); got != want {
				t.Errorf("Fade(%d, %d): %d; wanted %d", g, erased, got, want)
			}
		}
	}
}

// P9.3: every gain, each erased frame by what the one ahead of it left.
func TestFadeOfAll(t *testing.T) {
	for g := range 32768 {
		want := g
		for erased := range 6 {
			if got := gain.Fade(g, erased); got != want {
				t.Fatalf("Fade(%d, %d): %d; wanted %d", g, erased, got, want)
			}
			want = want * 26214 / 32768
		}
	}
}

// hiss is Noise by numbers without bounds.
func hiss(seed, size int) (int, int) {
	next := new(big.Int).Mul(big.NewInt(int64(seed)), big.NewInt(31821))
	next.Add(next, big.NewInt(13849))
	next.Mod(next, big.NewInt(65536))
	x := new(big.Int).Sub(next, big.NewInt(32768))
	x.Mul(x, big.NewInt(int64(max(0, min(size, 32767)))))
	// Rsh rounds down, at numbers below 0, too.
	return int(next.Int64()), int(x.Rsh(x, 15).Int64())
}

// P9.4: numbers that were worked out apart from the program.
func TestNoiseOfSome(t *testing.T) {
	for _, x := range []struct{ seed, size, next, want int }{
		{0, 0, 13849, 0},
		{0, 1, 13849, -1},
		{0, 32767, 13849, -18919},
		{21845, 8, 3242, -8},
		{3242, 8, 23867, -3},
		{23867, 8, 54488, 5},
		{54488, 8, 56081, 5},
		{56081, 32767, 22070, -10698},
		// The lowest and the highest seed behind it, and those at the middle.
		{10499, 32767, 0, -32767},
		{10499, 1, 0, -1},
		{10499, 8, 0, -8},
		{17800, 32767, 1, -32767},
		{28665, 32767, 32766, -2},
		{35966, 32767, 32767, -1},
		{35966, 1, 32767, -1},
		{43267, 32767, 32768, 0},
		{50568, 32767, 32769, 0},
		{61433, 32767, 65534, 32765},
		{3198, 32767, 65535, 32766},
		{3198, 1, 65535, 0},
		{3198, 8, 65535, 7},
		// A size out of its bounds.
		{10499, 32768, 0, -32767},
		{10499, 65536, 0, -32767},
		{3198, 1 << 48, 65535, 32766},
		{3198, most, 65535, 32766},
		{10499, most, 0, -32767},
		{10499, -1, 0, 0},
		{3198, -7, 65535, 0},
		{10499, -32768, 0, 0},
		{10499, least, 0, 0},
		// A seed of more than 16 bits, or below 0: the lowest 16 bits tell.
		{-1, 100, 47564, 45},
		{65535, 100, 47564, 45},
		{65536, 32767, 13849, -18919},
		{65537, 32767, 45670, 12901},
		{-65536, 32767, 13849, -18919},
		{1 << 48, 32767, 13849, -18919},
		{most, 32767, 47564, 14795},
		{least, 32767, 13849, -18919},
		{least + 1, 32767, 45670, 12901},
	} {
		if next, n := gain.Noise(x.seed, x.size); next != x.next || n != x.want {
			t.Errorf("Noise(%d, %d): %d, %d; wanted %d, %d", x.seed, x.size, next, n, x.next, x.want)
		}
	}
}

// P9.4, against numbers without bounds: every seed of 16 bits, and every size.
func TestNoiseOfAll(t *testing.T) {
	check := func(seed, size int) {
		next, n := gain.Noise(seed, size)
		if wantNext, want := hiss(seed, size); next != wantNext || n != want {
			t.Fatalf("Noise(%d, %d): %d, %d; wanted %d, %d", seed, size, next, n, wantNext, want)
		}
	}
	for seed := range 65536 {
		for _, size := range []int{1, 8, 12345, 32767} {
			check(seed, size)
		}
	}
	for size := -40000; size <= 40000; size++ {
		check(10499, size)
		check(3198, size)
	}
	for width := range 63 {
		for d := -3; d <= 3; d++ {
			for _, x := range []int{1<<width + d, -1<<width + d} {
				check(x, 32767)
				check(x, x)
				check(21845, x)
			}
		}
	}
}

// P9.4: from any seed on, the seeds go through all numbers of 16 bits before one comes again.
func TestNoiseGoesRound(t *testing.T) {
	var met [65536]bool
	seed := 21845
	for range met {
		seed, _ = gain.Noise(seed, 8)
		if seed < 0 || seed > 65535 || met[seed] {
			t.Fatalf("seed %d comes again, or is none", seed)
		}
		met[seed] = true
	}
}
