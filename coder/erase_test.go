package coder_test

import (
	"slices"
	"testing"

	"voxsat/api"
	"voxsat/coder"
	"voxsat/conceal"
)

// P12.5: frames lost on end; numbers that were worked out apart from the program.
func TestEraseOnEnd(t *testing.T) {
	m := worked()
	for i, x := range []struct {
		erased, seed int
		past         [8]int
		samples      []int
	}{
		{3, 47127, [8]int{-35, -50, -42, -25, -8, -42, -36, 27}, []int{
			472, 184, 51, -12, 14, -15, 2, -32, -33, -1, 59, -17, 9, 11, -18, 407, 329, 150, 48, 14,
			50, 135, 73, -37, -127, -153, -73, 8, -21, -97, -73, -11, 57, -13, 62, 79, 102, 1, -20, -5,
			-37, -92, -118, -29, -1, -65, 28, 24, 1, 31, -1, 18, 44, 30, 44, 52, 32, -19, -40, -45,
			-18, -24, 5, 33, 2, 153, 107, 76, 51, -12, 4, 38, 27, -36, -42, -8, -25, -42, -50, -35,
		}},
		{4, 63943, [8]int{28, -4, -35, -40, -17, 3, -1, 11}, []int{
			-4, 26, 60, 52, 75, 58, 66, 23, -27, -6, -12, -3, 5, 6, 27, 11, 44, 0, -28, -1,
			23, 9, 16, 40, 51, 25, -15, -46, -31, -32, -18, -12, 26, 38, 3, 9, -7, -24, 5, 30,
			43, 47, 2, -18, -20, 4, 28, 4, 2, 9, 36, 19, -1, 28, 29, 9, -13, -42, -52, -38,
			-36, -1, 2, -22, -21, 16, 16, -19, -5, 37, 22, -5, 11, -1, 3, -17, -40, -35, -4, 28,
		}},
		{5, 55159, [8]int{-9, -42, -26, -12, -5, 18, 4, -13}, []int{
			32, 22, 7, 23, 29, -1, 0, 15, 22, 0, -24, -22, -33, -10, 20, 33, 43, 31, -8, -22,
			-10, -11, -5, 17, 34, -4, -8, 2, -20, -12, -26, -12, 16, -10, -22, -10, 2, 5, 22, 4,
			-11, 0, 8, -7, -21, -32, -40, -33, -4, 26, 18, -4, -17, -25, -13, -30, -35, -26, -10, -20,
			-28, -26, -33, -38, -28, 13, 3, 15, 11, 10, 10, -1, -13, 4, 18, -5, -12, -26, -42, -9,
		}},
		{6, 20775, [8]int{}, append([]int{5, 3, 1, 1}, make([]int, 76)...)},
		{6, 26327, [8]int{}, make([]int, 80)},
		{6, 6279, [8]int{}, make([]int, 80)},
	} {
		n, l := erased(t, m)
		// The excitation is the last of what the frame was made of: another test holds it.
		want := worked()
		want.Exc, want.Past, want.Erased, want.Seed = n.Exc, x.past, x.erased, x.seed
		if n != want || !slices.Equal(l, x.samples) {
			t.Errorf("Erase, frame %d: %v, %v; wanted %v, %v", i, n, l, want, x.samples)
		}
		m = n
	}
	if m.Exc != [80]int{} {
		t.Errorf("what is left of the excitation: %v", m.Exc)
	}
}

// P12.5: the excitation is that of both halves of chapter 11, one behind the other, and counts as one frame.
func TestEraseExcitation(t *testing.T) {
	for seed := range uint32(100) {
		m := someMemory(seed)
		half, first, _ := conceal.Erased(m, 0)
		half, second, _ := conceal.Erased(half, 1)
		n, _ := erased(t, m)
		if n.Exc != [80]int(slices.Concat(first, second)) || n.Seed != half.Seed || n.Erased != min(m.Erased+1, 6) {
			t.Errorf("Erase of memory %d: %v", seed, n)
		}
	}
}

// P12.5, against steps of the test's own: good memories of all kinds, and on from there.
func TestEraseOfAll(t *testing.T) {
	check := func(m api.Memory) api.Memory {
		want, samples := lose(m)
		n, l := erased(t, m)
		if n != want || !slices.Equal(l, samples) {
			t.Errorf("Erase(%v): %v, %v; wanted %v, %v", m, n, l, want, samples)
		}
		if !conceal.Good(n) {
			t.Fatalf("behind %v there is a memory that is not good: %v", m, n)
		}
		return n
	}
	for _, m := range []api.Memory{conceal.Fresh(), worked(), smallest(), greatest()} {
		for m.Erased = range 7 {
			check(check(m))
		}
	}
	for seed := range uint32(1000) {
		m := someMemory(seed)
		for range 3 {
			m = check(m)
		}
	}
}

// P12.5: of a fresh memory there is nothing to make up; only the noise goes on, unheard.
func TestEraseFresh(t *testing.T) {
	want := conceal.Fresh()
	want.Erased, want.Seed = 1, 13445
	if n, l := erased(t, conceal.Fresh()); n != want || !slices.Equal(l, make([]int, 80)) {
		t.Errorf("Erase of a fresh memory: %v, %v", n, l)
	}
}

// P12.5: memories that are not good.
func TestEraseRefuses(t *testing.T) {
	for _, m := range badMemories() {
		if n, l, errno := coder.Erase(m); errno != api.ErrRange || n != (api.Memory{}) || len(l) != 0 {
			t.Errorf("Erase(%v): %v, %v, %d; wanted nothing, ErrRange", m, n, l, errno)
		}
	}
}

// What holds everywhere: answers are new memory.
func TestEraseIsNew(t *testing.T) {
	want, samples := lose(worked())
	m, first := erased(t, worked())
	_, second := erased(t, worked())
	spoil(first, 12345)
	if m != want || !slices.Equal(second, samples) {
		t.Error("Erase: the answers share memory")
	}
}
