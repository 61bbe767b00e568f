package conceal_test

import (
	"slices"
	"testing"

	"voxsat/api"
	"voxsat/conceal"
)

// P11.3: the last forty go ahead, and forty more come behind them.
func TestKeep(t *testing.T) {
	h, errno := conceal.Keep(history(counting(80, 1)), counting(40, 1001))
	if want := history(append(counting(40, 41), counting(40, 1001)...)); errno != api.OK || h != want {
		t.Errorf("Keep: %v, %d; wanted %v", h, errno, want)
	}
	h, errno = conceal.Keep(h, turning(40, -5, 6))
	if want := history(append(counting(40, 1001), turning(40, -5, 6)...)); errno != api.OK || h != want {
		t.Errorf("Keep once more: %v, %d; wanted %v", h, errno, want)
	}
}

// P11.3: what comes is stopped at 16 bits, each number at its place; what was kept already stays as it is.
func TestKeepStops(t *testing.T) {
	for _, x := range []struct{ come, want int }{
		{0, 0}, {1, 1}, {-1, -1}, {32766, 32766}, {32767, 32767}, {32768, 32767}, {32769, 32767}, {40000, 32767}, {65535, 32767}, {65536, 32767}, {1 << 32, 32767}, {most, 32767},
		{-32767, -32767}, {-32768, -32768}, {-32769, -32768}, {-40000, -32768}, {-65536, -32768}, {-1 << 32, -32768}, {least, -32768},
	} {
		for i := range 40 {
			exc := counting(40, 100)
			exc[i] = x.come
			want := history(append(counting(40, 47), counting(40, 100)...))
			want[40+i] = x.want
			if h, errno := conceal.Keep(history(counting(80, 7)), exc); errno != api.OK || h != want {
				t.Errorf("Keep of %d at %d: %v, %d; wanted %v", x.come, i, h, errno, want)
			}
		}
	}
	old := turning(80, most, least)
	want := history(append(turning(40, most, least), make([]int, 40)...))
	if h, errno := conceal.Keep(history(old), make([]int, 40)); errno != api.OK || h != want {
		t.Errorf("Keep behind what is beyond 16 bits: %v, %d; wanted %v", h, errno, want)
	}
}

// P11.3: lists that are not forty.
func TestKeepRefuses(t *testing.T) {
	for _, n := range []int{0, 1, 20, 39, 41, 79, 80, 81, 120, 1000} {
		for _, exc := range [][]int{make([]int, n), make([]int, n, n+40), turning(n, most, least)} {
			if h, errno := conceal.Keep(history(counting(80, 1)), exc); errno != api.ErrSize || h != (history{}) {
				t.Errorf("Keep of %d: %v, %d; wanted noughts, ErrSize", n, h, errno)
			}
		}
	}
	if h, errno := conceal.Keep(history(counting(80, 1)), nil); errno != api.ErrSize || h != (history{}) {
		t.Errorf("Keep of nil: %v, %d; wanted noughts, ErrSize", h, errno)
	}
}

// What holds everywhere: lists that are handed in stay as they are.
func TestKeepChangesNothing(t *testing.T) {
	h, room := history(mixedList(80, 12, 17)), mixedList(60, 13, 17)
	kept, _ := conceal.Keep(h, room[10:50])
	if h != history(mixedList(80, 12, 17)) || !slices.Equal(room, mixedList(60, 13, 17)) {
		t.Error("Keep: what was handed in was changed")
	}
	before := kept
	spoil(room)
	if kept != before {
		t.Error("Keep: the answer shares memory with what was handed in")
	}
}
