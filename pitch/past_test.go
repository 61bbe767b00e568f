package pitch_test

import (
	"math"
	"slices"
	"testing"

	"voxsat/api"
	"voxsat/pitch"
)

const most, least = math.MaxInt64, math.MinInt64

type history = [api.History]int

// noSamples are numbers that are beyond a sample's ends, some only just.
func noSamples() []int {
	return []int{32768, -32769, 65535, 65536, -65536, 1 << 31, -1 << 31, 1 << 32, 1<<32 + 5, 1 << 48, most, least}
}

// noLags are numbers that are beyond a lag's ends, some only just.
func noLags() []int {
	return []int{19, 80, 0, 1, -1, 18, 81, 160, -20, -40, -79, -80, 1 << 31, -1 << 31, 1 << 32, 1<<32 + 40, 1<<62 + 40, -1 << 62, most, least, least + 40}
}

// mixed are n numbers of at most so many bits, the same ones always.
func mixed(n int, seed uint32, width uint) []int {
	l := make([]int, n)
	x := seed
	for i := range l {
		x = x*1664525 + 1013904223
		l[i] = int(int32(x)) >> (32 - width)
	}
	return l
}

// turning are n numbers, x and y by turns.
func turning(n, x, y int) []int {
	l := make([]int, n)
	for i := range l {
		l[i], x, y = x, y, x
	}
	return l
}

// counting are the numbers from x on, rising.
func counting(n, x int) []int {
	l := make([]int, n)
	for i := range l {
		l[i] = x + i
	}
	return l
}

// repeated is Past by a list that grows: each number is the one that stands lag places ahead of it.
func repeated(h history, lag int) []int {
	all := slices.Clone(h[:])
	for range 40 {
		all = append(all, all[len(all)-lag])
	}
	return all[80:]
}

// spoil writes over a list and its spare room.
func spoil(l []int) {
	l = l[:cap(l)]
	for i := range l {
		l[i] = -12345
	}
}

// P7.1: numbers that were worked out by hand, the newest of h being 79.
func TestPastByHand(t *testing.T) {
	h := history(counting(80, 0))
	for _, x := range []struct {
		lag  int
		want []int
	}{
		{20, append(counting(20, 60), counting(20, 60)...)},
		{21, append(counting(21, 59), counting(19, 59)...)},
		{25, append(counting(25, 55), counting(15, 55)...)},
		{39, append(counting(39, 41), 41)},
		{40, counting(40, 40)},
		{41, counting(40, 39)},
		{60, counting(40, 20)},
		{78, counting(40, 2)},
		{79, counting(40, 1)},
	} {
		if l, errno := pitch.Past(h, x.lag); errno != api.OK || !slices.Equal(l, x.want) {
			t.Errorf("Past, lag %d: %v, %d; wanted %v", x.lag, l, errno, x.want)
		}
	}
}

// P7.1: every lag; numbers need not be samples.
func TestPastOfAll(t *testing.T) {
	for i, h := range []history{
		{},
		history(mixed(80, 1, 16)),
		history(mixed(80, 2, 32)),
		history(turning(80, 32767, -32768)),
		history(turning(80, most, least)),
		history(turning(80, 32768, -32769)),
	} {
		for lag := 20; lag <= 79; lag++ {
			if l, errno := pitch.Past(h, lag); errno != api.OK || !slices.Equal(l, repeated(h, lag)) {
				t.Errorf("Past of history %d, lag %d: %v, %d; wanted %v", i, lag, l, errno, repeated(h, lag))
			}
		}
	}
}

// P7.1: wrong lags.
func TestPastRefuses(t *testing.T) {
	for _, lag := range noLags() {
		for _, h := range []history{{}, history(counting(80, 1)), history(turning(80, most, least))} {
			if l, errno := pitch.Past(h, lag); errno != api.ErrRange || len(l) != 0 {
				t.Errorf("Past, lag %d: %v, %d", lag, l, errno)
			}
		}
	}
}

// What holds everywhere: answers are new memory.
func TestPastIsNew(t *testing.T) {
	h := history(mixed(80, 3, 16))
	for lag := 20; lag <= 79; lag++ {
		first, _ := pitch.Past(h, lag)
		second, _ := pitch.Past(h, lag)
		spoil(first)
		if !slices.Equal(second, repeated(h, lag)) || h != history(mixed(80, 3, 16)) {
			t.Errorf("Past, lag %d: the answers share memory", lag)
		}
	}
}
