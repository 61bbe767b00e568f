package pitch_test

import (
	"slices"
	"testing"

	"voxsat/api"
	"voxsat/pitch"
)

// spread are 159 noughts with some numbers at their places.
func spread(numbers map[int]int) []int {
	l := make([]int, 159)
	for i, x := range numbers {
		l[i] = x
	}
	return l
}

// ahead are the eighty samples that stand each lag ahead of the last eighty, lags rising.
func ahead(l []int) [][]int {
	var out [][]int
	for lag := 20; lag <= 79; lag++ {
		v := make([]int, 80)
		for i := range v {
			v[i] = l[79+i-lag]
		}
		out = append(out, v)
	}
	return out
}

// P7.3: numbers that were worked out by hand; the last eighty begin at place 79.
func TestOpenByHand(t *testing.T) {
	for _, x := range []struct {
		remark string
		l      []int
		want   int
	}{
		{"noughts", spread(nil), 20},
		{"two beats", spread(map[int]int{100: 5, 63: 7}), 37},
		{"the least lag", spread(map[int]int{100: 5, 80: 7}), 20},
		{"the greatest lag", spread(map[int]int{100: 5, 21: 7}), 79},
		{"closer than any lag", spread(map[int]int{100: 5, 81: 7}), 20},
		{"farther than any lag", spread(map[int]int{100: 5, 20: 7}), 20},
		{"the first sample and the first of the last", spread(map[int]int{0: 5, 79: 7}), 79},
		{"the last sample", spread(map[int]int{158: 5, 121: 7}), 37},
		{"the beat ahead is no part of the last eighty", spread(map[int]int{78: 5, 50: 7}), 20},
		{"of two signs", spread(map[int]int{100: 5, 63: -7}), 20},
		{"of two signs, and a softer one", spread(map[int]int{100: 50, 63: -70, 50: 1}), 50},
		// The eighty of lag 30, and those of lag 50, hold all three.
		{"the first one of equals", spread(map[int]int{100: 5, 70: 7, 50: 7}), 30},
		// The eighty of lag 78 hold not the loud one, those of lag 30 do.
		{"e counts", spread(map[int]int{100: 50, 70: 7, 22: 7}), 78},
		{"c counts", spread(map[int]int{100: 50, 70: 700, 22: 7}), 30},
	} {
		if lag, errno := pitch.Open(x.l); errno != api.OK || lag != x.want {
			t.Errorf("Open, %s: %d, %d; wanted %d", x.remark, lag, errno, x.want)
		}
	}
}

// P7.3: what repeats itself is heard to.
func TestOpenFindsTheBeat(t *testing.T) {
	for beat := 20; beat <= 79; beat++ {
		wave := mixed(beat, uint32(beat), 15)
		l := make([]int, 159)
		for i := range l {
			l[i] = wave[i%beat]
		}
		if lag, errno := pitch.Open(l); errno != api.OK || lag != beat {
			t.Errorf("Open, beat %d: %d, %d", beat, lag, errno)
		}
	}
}

// P7.3, against fractions without bounds.
func TestOpenOfAll(t *testing.T) {
	lists := [][]int{
		turning(159, 32767, 32767), turning(159, -32768, -32768), turning(159, 32767, -32768), turning(159, -32768, 32767),
		turning(159, 1, -1), turning(159, 1, 0), counting(159, -79), counting(159, 0),
	}
	for seed := uint32(1); seed <= 100; seed++ {
		for _, width := range []uint{2, 4, 9, 16} {
			lists = append(lists, mixed(159, seed, width))
		}
	}
	for i, l := range lists {
		want := foremost(l[79:], ahead(l)).lag
		if lag, errno := pitch.Open(l); errno != api.OK || lag != want {
			t.Errorf("Open of list %d: %d, %d; wanted %d", i, lag, errno, want)
		}
	}
}

// P7.3: lists of wrong lengths, ahead of wrong numbers; wrong numbers at every place.
func TestOpenRefuses(t *testing.T) {
	refused := func(remark string, l []int, want api.Errno) {
		t.Helper()
		if lag, errno := pitch.Open(l); errno != want || lag != 0 {
			t.Errorf("Open, %s: %d, %d; wanted %d", remark, lag, errno, want)
		}
	}
	refused("nothing", nil, api.ErrSize)
	for _, n := range []int{0, 1, 79, 80, 120, 158, 160, 318, 1000} {
		refused("size", make([]int, n), api.ErrSize)
		refused("size, and no samples", turning(n, 32768, least), api.ErrSize)
	}
	for _, bad := range noSamples() {
		for i := range 159 {
			l := mixed(159, 12, 16)
			l[i] = bad
			refused("no sample", l, api.ErrRange)
		}
	}
}

// What holds everywhere: lists stay as they are, with their spare room.
func TestOpenChangesNothing(t *testing.T) {
	all := mixed(200, 13, 16)
	was := slices.Clone(all)
	one, _ := pitch.Open(all[20:179])
	two, errno := pitch.Open(all[20:179])
	if errno != api.OK || one != two || one != foremost(was[99:179], ahead(was[20:179])).lag || !slices.Equal(all, was) {
		t.Errorf("Open: %d, %d, %d, or its list was changed", one, two, errno)
	}
}
