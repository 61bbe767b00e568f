package pulses_test

import (
	"math"
	"slices"
	"testing"

	"voxsat/api"
	"voxsat/pulses"
)

const (
	most  = math.MaxInt64
	least = math.MinInt64
)

type places = [api.Tracks]int

// noPlaces are numbers that are not from 0 to 9.
func noPlaces() []int {
	return []int{-1, 10, 11, -9, -10, 40, 1 << 16, 1 << 31, -1 << 31, 1 << 32, 1<<32 + 5, -1 << 32, 1 << 62, most, least}
}

// spoil overwrites a list with its spare room.
func spoil(l []int) {
	l = l[:cap(l)]
	for i := range l {
		l[i] = 12345
	}
}

// P8.1: every place of every track; together they are the forty samples, each once.
func TestAt(t *testing.T) {
	seen := map[int]int{}
	for track := range 4 {
		want := track
		for place := range 10 {
			n, errno := pulses.At(track, place)
			if n != want || errno != api.OK {
				t.Errorf("At(%d, %d): %d, %d; wanted %d", track, place, n, errno, want)
			}
			seen[n]++
			want += 4
		}
	}
	if len(seen) != 40 {
		t.Errorf("At: %d samples; wanted forty", len(seen))
	}
}

// P8.1: wrong tracks, wrong places, and both.
func TestAtRefuses(t *testing.T) {
	refused := func(track, place int) {
		t.Helper()
		if n, errno := pulses.At(track, place); n != 0 || errno != api.ErrRange {
			t.Errorf("At(%d, %d): %d, %d", track, place, n, errno)
		}
	}
	tracks := []int{-1, 4, 5, -3, -4, 9, 1 << 31, -1 << 31, 1 << 32, 1<<32 + 1, -1 << 32, 1 << 62, most, least}
	for _, track := range tracks {
		for place := range 10 {
			refused(track, place)
		}
		for _, place := range noPlaces() {
			refused(track, place)
		}
	}
	for _, place := range noPlaces() {
		for track := range 4 {
			refused(track, place)
		}
	}
}

// P8.2: numbers that were worked out by hand.
func TestBuildByHand(t *testing.T) {
	for _, x := range []struct {
		remark      string
		index       places
		signs, size int
		want        map[int]int
	}{
		{"all at the first places, all below 0", places{}, 0, 1, map[int]int{0: -1, 1: -1, 2: -1, 3: -1}},
		{"all at the last places, all above 0", places{9, 9, 9, 9}, 15, 7, map[int]int{36: 7, 37: 7, 38: 7, 39: 7}},
		{"the first track's sign", places{1, 2, 3, 4}, 1, 100, map[int]int{4: 100, 9: -100, 14: -100, 19: -100}},
		{"the second track's sign", places{1, 2, 3, 4}, 2, 100, map[int]int{4: -100, 9: 100, 14: -100, 19: -100}},
		{"the third track's sign", places{1, 2, 3, 4}, 4, 100, map[int]int{4: -100, 9: -100, 14: 100, 19: -100}},
		{"the fourth track's sign", places{1, 2, 3, 4}, 8, 100, map[int]int{4: -100, 9: -100, 14: -100, 19: 100}},
		{"two signs", places{8, 0, 5, 0}, 10, 2000, map[int]int{32: -2000, 1: 2000, 22: -2000, 3: 2000}},
		{"the greatest size", places{0, 9, 0, 9}, 6, 32767, map[int]int{0: -32767, 37: 32767, 2: 32767, 39: -32767}},
		{"no size", places{0, 9, 0, 9}, 6, 0, nil},
	} {
		want := make([]int, 40)
		for i, n := range x.want {
			want[i] = n
		}
		if l, errno := pulses.Build(x.index, x.signs, x.size); errno != api.OK || !slices.Equal(l, want) {
			t.Errorf("Build, %s: %v, %d; wanted %v", x.remark, l, errno, want)
		}
	}
}

// P8.2: every place with all signs.
func TestBuildOfAll(t *testing.T) {
	for place := range 10 {
		for signs := range 16 {
			index := places{place, (place + 3) % 10, (place + 7) % 10, 9 - place}
			want := make([]int, 40)
			bits := signs
			for track, at := range index {
				want[4*at+track] = -345 + bits%2*690
				bits /= 2
			}
			if l, errno := pulses.Build(index, signs, 345); errno != api.OK || !slices.Equal(l, want) {
				t.Errorf("Build(%v, %d, 345): %v, %d; wanted %v", index, signs, l, errno, want)
			}
		}
	}
}

// P8.2: wrong signs, wrong sizes, wrong places on every track.
func TestBuildRefuses(t *testing.T) {
	refused := func(index places, signs, size int) {
		t.Helper()
		if l, errno := pulses.Build(index, signs, size); len(l) != 0 || errno != api.ErrRange {
			t.Errorf("Build(%v, %d, %d): %v, %d", index, signs, size, l, errno)
		}
	}
	for _, signs := range []int{-1, 16, 17, -15, -16, 31, 1 << 31, -1 << 31, 1 << 32, 1<<32 + 3, -1 << 32, most, least} {
		refused(places{1, 2, 3, 4}, signs, 100)
		refused(places{}, signs, 0)
	}
	for _, size := range []int{-1, 32768, 32769, -32767, -32768, 65536, 1 << 31, -1 << 31, 1 << 32, 1<<32 + 3, -1 << 32, most, least} {
		refused(places{1, 2, 3, 4}, 5, size)
		refused(places{}, 0, size)
	}
	for _, bad := range noPlaces() {
		for track := range 4 {
			index := places{1, 2, 3, 4}
			index[track] = bad
			refused(index, 5, 100)
			refused(index, 0, 0)
			refused(index, 16, -1)
		}
		refused(places{bad, bad, bad, bad}, 15, 32767)
	}
}

// What holds everywhere: answers are new memory.
func TestBuildKeepsNothing(t *testing.T) {
	first, _ := pulses.Build(places{1, 2, 3, 4}, 5, 100)
	second, _ := pulses.Build(places{1, 2, 3, 4}, 5, 100)
	was := slices.Clone(second)
	spoil(first)
	if third, _ := pulses.Build(places{1, 2, 3, 4}, 5, 100); !slices.Equal(second, was) || !slices.Equal(third, was) {
		t.Error("Build's answers share memory")
	}
}
