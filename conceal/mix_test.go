package conceal_test

import (
	"math/big"
	"slices"
	"testing"

	"voxsat/api"
	"voxsat/conceal"
)

// mixedList are n numbers of at most so many bits, the same ones always.
func mixedList(n int, seed uint32, width uint) []int {
	l := make([]int, n)
	for i := range l {
		seed = seed*1664525 + 1013904223
		l[i] = int(int32(seed)) >> (32 - width)
	}
	return l
}

// turning are n numbers, x and y by turns.
func turning(n, x, y int) []int {
	l := make([]int, n)
	for i := range l {
		l[i], x, y = x, y, x
	}
	return l
}

// counting are the numbers from x on, rising.
func counting(n, x int) []int {
	l := make([]int, n)
	for i := range l {
		l[i] = x + i
	}
	return l
}

// led is a list of forty that begins with these numbers, the others being noughts.
func led(l ...int) []int { return append(l, make([]int, 40-len(l))...) }

// ended is a history whose last numbers are these, the others being noughts.
func ended(l ...int) history { return history(append(make([]int, 80-len(l)), l...)) }

// spoil writes over a list and its spare room.
func spoil(l []int) {
	l = l[:cap(l)]
	for i := range l {
		l[i] = -12345
	}
}

// stop16 is x stopped at 16 bits, by steps of its own.
func stop16(x int) int {
	switch {
	case x > 32767:
		return 32767
	case x < -32768:
		return -32768
	}
	return x
}

// blend is Mix by numbers without bounds and by a history that grows.
func blend(h history, lag, g int, beside []int) []int {
	all := slices.Clone(h[:])
	var out []int
	for i := range 40 {
		x := all[len(all)-lag]
		all = append(all, x)
		sum := new(big.Int).Mul(big.NewInt(int64(stop16(x))), big.NewInt(int64(g)))
		sum.Add(sum, big.NewInt(8192))
		// Rsh rounds down, at numbers below 0, too.
		sum.Rsh(sum, 14)
		sum.Add(sum, big.NewInt(int64(stop16(beside[i]))))
		out = append(out, stop16(int(sum.Int64())))
	}
	return out
}

// noLags are numbers that are beyond a lag's ends, some only just.
func noLags() []int {
	return []int{19, 80, 0, 1, -1, 18, 81, 160, -20, -40, -79, -80, 1 << 31, -1 << 31, 1 << 32, 1<<32 + 40, 1<<62 + 40, -1 << 62, most, least, least + 40}
}

// noGains are numbers that are beyond a gain's ends, some only just.
func noGains() []int {
	return []int{-1, 32768, -2, 32769, -16384, -32768, 65535, 65536, 1<<16 + 5, 1 << 31, -1 << 31, 1 << 32, 1<<32 + 16384, 1 << 62, most, least, least + 16384}
}

// P11.2: numbers that were worked out by hand; with a lag of 40 the first one is by the history's number 40.
func TestMixByHand(t *testing.T) {
	for _, x := range []struct{ past, g, beside, want int }{
		{1000, 16384, 0, 1000},
		{1000, 16384, 5, 1005},
		{1000, 8192, -7, 493},
		{1000, 0, -7, -7},
		{0, 32767, 12, 12},
		{-1000, 16384, 1, -999},
		// Rounded: a half goes up, at numbers below 0, too.
		{1, 8191, 0, 0},
		{1, 8192, 0, 1},
		{1, 24575, 0, 1},
		{1, 24576, 0, 2},
		{-1, 8192, 0, 0},
		{-1, 8193, 0, -1},
		{-1, 24576, 0, -1},
		{-1, 24577, 0, -2},
		{3, 8192, 0, 2},
		{-3, 8192, 0, -1},
		{-3, 8191, 0, -1},
		// The sum is stopped.
		{32767, 16384, 1, 32767},
		{32767, 16384, -1, 32766},
		{-32768, 16384, -1, -32768},
		{-32768, 16384, 1, -32767},
		{30000, 18022, 0, 32767},
		{-30000, 18022, 0, -32768},
		// The product by itself is not: it comes back.
		{32767, 32767, 0, 32767},
		{32767, 32767, -32768, 32764},
		{32767, 32767, -32765, 32767},
		{32767, 32767, -32766, 32766},
		{-32768, 32767, 0, -32768},
		{-32768, 32767, 32767, -32767},
		{-32768, 32767, 32766, -32768},
		{30000, 18022, -10000, 22999},
		{-30000, 18022, 10000, -22999},
		// What is handed in is stopped ahead of all else.
		{32768, 16384, -1, 32766},
		{40000, 8192, 0, 16384},
		{-32769, 16384, 1, -32767},
		{-40000, 8192, 0, -16384},
		{most, 8192, 0, 16384},
		{least, 8192, 0, -16384},
		{most, 32767, least, 32764},
		{least, 32767, most, -32767},
		{most, 0, 3, 3},
		{-1000, 16384, 32768, 31767},
		{-1000, 16384, 40000, 31767},
		{-1000, 16384, most, 31767},
		{1000, 16384, -32769, -31768},
		{1000, 16384, least, -31768},
	} {
		for lag := 40; lag <= 79; lag++ {
			var h history
			h[80-lag] = x.past
			l, errno := conceal.Mix(h, lag, x.g, led(x.beside))
			if errno != api.OK || !slices.Equal(l, led(x.want)) {
				t.Errorf("Mix of %d, lag %d, gain %d, beside %d: %v, %d; wanted %d", x.past, lag, x.g, x.beside, l, errno, x.want)
			}
		}
	}
}

// P11.2: where the lag is shorter than a half the past comes again, each number with its own beside it.
func TestMixRepeats(t *testing.T) {
	h := history(counting(80, 0))
	beside := turning(40, 1000, 2000)
	for lag := 20; lag <= 79; lag++ {
		l, errno := conceal.Mix(h, lag, 16384, beside)
		if errno != api.OK || len(l) != 40 {
			t.Fatalf("Mix, lag %d: %v, %d", lag, l, errno)
		}
		for i, x := range l {
			if want := 80 - lag + i%lag + 1000 + 1000*(i%2); x != want {
				t.Errorf("Mix, lag %d, number %d: %d; wanted %d", lag, i, x, want)
			}
		}
	}
}

// P11.2, against numbers without bounds: every lag, gains of all sizes, numbers of all widths.
func TestMixOfAll(t *testing.T) {
	gains := []int{0, 1, 2, 3277, 6554, 8191, 8192, 8193, 9830, 12452, 14746, 16383, 16384, 16385, 18022, 32766, 32767}
	histories := []history{
		{}, history(mixedList(80, 1, 16)), history(mixedList(80, 2, 17)), history(mixedList(80, 3, 32)), history(mixedList(80, 4, 8)),
		history(turning(80, 32767, -32768)), history(turning(80, 32768, -32769)), history(turning(80, most, least)),
	}
	besides := [][]int{
		make([]int, 40), mixedList(40, 5, 16), mixedList(40, 6, 17), mixedList(40, 7, 32),
		turning(40, -32768, 32767), turning(40, 32767, -32768), turning(40, least, most), turning(40, most, least),
	}
	for lag := 20; lag <= 79; lag++ {
		for i, h := range histories {
			for j, beside := range besides {
				g := gains[(lag+i+3*j)%len(gains)]
				if l, errno := conceal.Mix(h, lag, g, beside); errno != api.OK || !slices.Equal(l, blend(h, lag, g, beside)) {
					t.Errorf("Mix of history %d, lag %d, gain %d, list %d: %v, %d; wanted %v", i, lag, g, j, l, errno, blend(h, lag, g, beside))
				}
			}
		}
	}
	h, beside := history(mixedList(80, 8, 16)), mixedList(40, 9, 15)
	for g := range 32768 {
		lag := 20 + g%60
		if l, errno := conceal.Mix(h, lag, g, beside); errno != api.OK || !slices.Equal(l, blend(h, lag, g, beside)) {
			t.Fatalf("Mix, lag %d, gain %d: %v, %d; wanted %v", lag, g, l, errno, blend(h, lag, g, beside))
		}
	}
}

// P11.2: lists that are not forty, and wrong lags and gains; the size is told first.
func TestMixRefuses(t *testing.T) {
	h := history(counting(80, 1))
	refuse := func(lag, g int, beside []int, want api.Errno) {
		if l, errno := conceal.Mix(h, lag, g, beside); errno != want || len(l) != 0 {
			t.Errorf("Mix, lag %d, gain %d, of %d: %v, %d; wanted %d", lag, g, len(beside), l, errno, want)
		}
	}
	for _, n := range []int{0, 1, 20, 39, 41, 79, 80, 81, 1000} {
		refuse(40, 16384, make([]int, n), api.ErrSize)
		refuse(40, 16384, make([]int, n, n+40), api.ErrSize)
		refuse(19, 16384, make([]int, n), api.ErrSize)
		refuse(40, -1, make([]int, n), api.ErrSize)
		refuse(80, 32768, make([]int, n), api.ErrSize)
	}
	refuse(40, 16384, nil, api.ErrSize)
	refuse(0, -1, nil, api.ErrSize)
	for _, lag := range noLags() {
		refuse(lag, 0, make([]int, 40), api.ErrRange)
		refuse(lag, 16384, make([]int, 40), api.ErrRange)
		refuse(lag, -1, make([]int, 40), api.ErrRange)
	}
	for _, g := range noGains() {
		for lag := 20; lag <= 79; lag++ {
			refuse(lag, g, make([]int, 40), api.ErrRange)
		}
	}
}

// What holds everywhere: lists that are handed in stay as they are, answers are new memory.
func TestMixIsNew(t *testing.T) {
	h := history(mixedList(80, 10, 17))
	room := mixedList(60, 11, 17)
	for lag := 20; lag <= 79; lag++ {
		want := blend(h, lag, 12452, room[10:50])
		first, _ := conceal.Mix(h, lag, 12452, room[10:50])
		second, _ := conceal.Mix(h, lag, 12452, room[10:50])
		spoil(first)
		if !slices.Equal(second, want) {
			t.Errorf("Mix, lag %d: the answers share memory", lag)
		}
		spoil(second)
		if !slices.Equal(room, mixedList(60, 11, 17)) || h != history(mixedList(80, 10, 17)) {
			t.Fatalf("Mix, lag %d: what was handed in was changed", lag)
		}
	}
}
