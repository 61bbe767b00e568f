package conceal_test

import (
	"slices"
	"testing"

	"voxsat/api"
	"voxsat/conceal"
)

// sound is forty numbers of noise of a size, and the last seed, by steps of its own.
func sound(seed, size int) (int, []int) {
	var l []int
	for range 40 {
		seed = (seed*31821 + 13849) % 65536
		x := (seed - 32768) * size
		// A remainder below 0 is made one above it, so that the quotient is rounded down.
		l = append(l, (x-(x%32768+32768)%32768)/32768)
	}
	return seed, l
}

// faded is a gain that many erased frames later, by steps of its own.
func faded(g, erased int) int {
	if erased >= 6 {
		return 0
	}
	for range erased {
		g = g * 26214 / 32768
	}
	return g
}

// lost is Erased of a good memory, by steps of its own.
func lost(m api.Memory, half int) (api.Memory, []int) {
	if half == 0 && m.Erased < 6 {
		m.Erased++
	}
	var beside []int
	m.Seed, beside = sound(m.Seed, faded(m.Gain, m.Erased)/4)
	exc := blend(m.Exc, m.Lag, faded(m.Pitch, m.Erased), beside)
	m.Exc = history(append(slices.Clone(m.Exc[40:]), exc...))
	return m, exc
}

// check holds Erased against numbers that are wanted, and all that it has to leave as it was against what was handed in.
func check(t *testing.T, m api.Memory, half int, want api.Memory, exc []int) {
	t.Helper()
	got, l, errno := conceal.Erased(m, half)
	if errno != api.OK || got != want || !slices.Equal(l, exc) {
		t.Errorf("Erased(%v, %d): %v, %v, %d; wanted %v, %v", m, half, got, l, errno, want, exc)
	}
}

// P11.4: six frames lost on end, and one more: numbers that were worked out apart from the program.
func TestErasedOnEnd(t *testing.T) {
	m := conceal.Fresh()
	m.Gain, m.Pitch, m.Lag, m.Silence = 400, 16384, 30, true
	m.Refl[3], m.Past[2], m.Exc[79] = -30000, 1234, 1000
	for i, x := range []struct {
		erased, seed int
		exc          []int
	}{
		{1, 17773, []int{-72, -22, 52, 56, -26, -32, -30, -33, 68, 66, 24, -60, -59, -66, -74, 14, 76, -15, -21, 26, -35, -41, -27, -63, 11, 32, -25, -21, -54, 823, 12, 32, -66, 29, 72, -65, -56, -52, -56, -37}},
		{1, 13445, []int{80, -92, -35, -19, -42, 41, 48, 16, -39, -28, -14, -93, 46, -116, 50, 73, 39, -21, -65, 608, 7, -18, -44, 24, 107, 17, -82, 0, -23, 46, -33, -19, -42, -59, -29, 51, 105, -54, 60, -26}},
		{2, 33437, []int{-18, -7, 91, -135, 3, 93, 10, 41, 4, 349, 12, -20, -29, 45, 96, 43, -88, -46, 19, 77, 20, 17, -42, -33, 27, 51, 128, -70, 55, 11, 22, -102, -11, -64, 43, 28, 0, -3, -82, 390}},
		{2, 36789, []int{13, 29, 38, -18, 23, -11, -110, -37, -11, 19, 8, 2, -2, -31, 53, 75, 131, -13, 32, -39, -26, -110, 18, -33, 44, -22, -16, -50, -113, 217, -32, -11, 32, 18, 65, -3, -45, -19, 26, 56}},
		{3, 48077, []int{-36, -16, -18, -25, 3, -8, 54, -1, 25, 11, -49, -58, 0, -17, 56, -20, 17, -4, -74, 93, -24, 27, 2, 56, 79, 42, -43, 22, 29, 70, -12, -38, 7, -32, 17, 72, 67, 3, -19, 3}},
		{3, 26341, []int{24, 0, -49, -33, 12, 20, -26, 16, -31, 18, -12, 61, 2, 15, 63, 56, -2, 1, -9, 68, -14, -52, -20, -55, 33, 16, 49, 22, -16, -38, -64, -47, -43, 14, -16, -11, 53, -49, -22, 38}},
		{4, 61693, []int{-39, 34, 29, -30, 9, 49, -18, -26, -34, 52, -14, -40, 22, -33, 3, 10, 27, -18, -40, -56, -61, -16, -37, -4, 20, 3, 5, -48, -31, -8, -17, 29, -18, 43, 16, 28, 19, -21, -42, 63}},
		{4, 47637, []int{-27, -46, 27, -43, -38, 5, 23, -14, -46, 16, -8, 12, -25, 31, 16, 29, -14, -28, 4, -24, -30, -3, -28, -11, -21, -9, -24, -7, 16, 32, 31, -45, -28, -22, -19, 0, 38, 0, -46, -5}},
		{5, 8749, []int{-13, 19, -6, 36, -4, -9, -29, 8, -2, -31, -21, 17, 15, -13, -19, -25, 6, -4, -27, 37, 26, 8, -36, 10, -4, 7, 41, -19, -25, 5, 16, 2, -24, 6, 7, 11, -34, -11, 22, -32}},
		{5, 35141, []int{-21, 26, -19, 12, -23, -18, 6, 7, 21, 21, -17, 19, -26, -24, -9, 24, 26, 11, 14, -5, 8, 5, 1, 11, 25, -24, 3, 1, 2, 0, 8, 33, 24, -8, -31, -30, -12, -16, -40, 14}},
		{6, 20317, make([]int, 40)},
		{6, 54389, make([]int, 40)},
		{6, 30861, make([]int, 40)},
		{6, 39845, make([]int, 40)},
	} {
		want := m
		want.Erased, want.Seed = x.erased, x.seed
		want.Exc = history(append(slices.Clone(m.Exc[40:]), x.exc...))
		check(t, m, i%2, want, x.exc)
		m = want
	}
	if m.Exc != (history{}) {
		t.Errorf("what is left of the excitation: %v", m.Exc)
	}
}

// P11.4: loud excitation is stopped; numbers that were worked out apart from the program.
func TestErasedStops(t *testing.T) {
	m := conceal.Fresh()
	m.Gain, m.Pitch, m.Lag, m.Seed = 32767, 18022, 79, 65535
	for i := range m.Exc {
		m.Exc[i] = 32767
		if i%3 == 0 {
			m.Exc[i] = -32768
		}
	}
	exc := []int{31791, 32767, -24878, 32767, 23020, -26367, 32767, 26297, -29454, 28918, 22440, -27231, 26685, 32767, -31283, 30263, 32767, -23004, 32767, 32767, -32768, 32551, 29371, -25128, 27249, 23565, -24748, 28027, 27924, -30506, 32767, 31488, -31078, 32767, 24259, -32768, 32767, 28682, -32768, 25471}
	want := m
	want.Erased, want.Seed = 1, 15959
	want.Exc = history(append(slices.Clone(m.Exc[40:]), exc...))
	check(t, m, 0, want, exc)
}

// P11.4: a second half is not counted, not even without a first one: at none erased all is as loud as it was.
func TestErasedSecondHalf(t *testing.T) {
	m := conceal.Fresh()
	m.Gain, m.Pitch, m.Lag, m.Seed = 32767, 18022, 79, 0
	for i := range m.Exc {
		m.Exc[i] = 32767
		if i%3 == 0 {
			m.Exc[i] = -32768
		}
	}
	exc := []int{31313, 32767, -32768, 32767, 32767, -32768, 32767, 32497, -32768, 29897, 32767, -29900, 32767, 31196, -29521, 29143, 32767, -32768, 29679, 28946, -29164, 32767, 31622, -31771, 32767, 32767, -32768, 32767, 32767, -32768, 32767, 32767, -28431, 29579, 32767, -32768, 31496, 28094, -32768, 32521}
	want := m
	want.Erased, want.Seed = 0, 18680
	want.Exc = history(append(slices.Clone(m.Exc[40:]), exc...))
	check(t, m, 1, want, exc)
	for erased := range 7 {
		m.Erased = erased
		if n, _, errno := conceal.Erased(m, 1); errno != api.OK || n.Erased != erased {
			t.Errorf("Erased, second half at %d: %d, %d", erased, n.Erased, errno)
		}
		if n, _, errno := conceal.Erased(m, 0); errno != api.OK || n.Erased != min(erased+1, 6) {
			t.Errorf("Erased, first half at %d: %d, %d", erased, n.Erased, errno)
		}
	}
}

// P11.4: of a gain that fades to less than 4 nothing is heard; the pitch goes on without it, and the seeds, too.
func TestErasedSoft(t *testing.T) {
	for _, x := range []struct{ gain, first int }{
		{0, 0}, {3, 0}, {4, 0}, {5, 0}, {6, -1}, {8, -1}, {9, -1}, {10, -1}, {11, -2}, {12, -2},
	} {
		m := conceal.Fresh()
		m.Gain = x.gain
		if n, l, errno := conceal.Erased(m, 0); errno != api.OK || n.Seed != 17773 || l[0] != x.first {
			t.Errorf("Erased, gain %d: %v, seed %d, %d; wanted %d first", x.gain, l, n.Seed, errno, x.first)
		}
	}
	m := conceal.Fresh()
	m.Pitch, m.Lag, m.Exc = 16384, 20, ended(1000, 0, -1000)
	// A gain of one that fades once is 13107 of 16384.
	want := led(slices.Concat(make([]int, 17), []int{800, 0, -800}, make([]int, 17), []int{800, 0, -800})...)
	if n, l, errno := conceal.Erased(m, 0); errno != api.OK || !slices.Equal(l, want) || n.Seed != 17773 {
		t.Errorf("Erased without noise: %v, seed %d, %d; wanted %v", l, n.Seed, errno, want)
	}
}

// P11.4, against steps of the test's own: good memories of all kinds, each half, at each number of erased frames.
func TestErasedOfAll(t *testing.T) {
	for _, m := range []api.Memory{conceal.Fresh(), smallest(), greatest()} {
		for erased := range 7 {
			m.Erased = erased
			for half := range 2 {
				want, exc := lost(m, half)
				check(t, m, half, want, exc)
			}
		}
	}
	for seed := range uint32(3000) {
		m := some(seed)
		for half := range 2 {
			want, exc := lost(m, half)
			check(t, m, half, want, exc)
		}
	}
}

// P11.4: frames that are lost on end, from many memories on, lead to good memories, and from the sixth on to nothing.
func TestErasedFades(t *testing.T) {
	for seed := range uint32(200) {
		m := some(seed)
		m.Erased = 0
		for i := range 14 {
			n, l, errno := conceal.Erased(m, i%2)
			if errno != api.OK || !conceal.Good(n) {
				t.Fatalf("Erased of memory %d, half %d: %v, %d", seed, i, n, errno)
			}
			if i >= 10 && !slices.Equal(l, make([]int, 40)) {
				t.Errorf("Erased of memory %d, half %d: %v; wanted noughts", seed, i, l)
			}
			m = n
		}
	}
}

// P11.4: memories that are not good, and wrong halves.
func TestErasedRefuses(t *testing.T) {
	refuse := func(m api.Memory, half int) {
		if n, l, errno := conceal.Erased(m, half); errno != api.ErrRange || n != (api.Memory{}) || len(l) != 0 {
			t.Errorf("Erased(%v, %d): %v, %v, %d; wanted nothing, ErrRange", m, half, n, l, errno)
		}
	}
	for _, m := range bad() {
		refuse(m, 0)
		refuse(m, 1)
	}
	for _, half := range []int{-1, 2, 3, -2, 40, 256, 1 << 16, 1 << 32, 1<<32 + 1, -1 << 32, 1 << 62, most, least, least + 1} {
		for _, m := range []api.Memory{conceal.Fresh(), greatest(), some(3), {}} {
			refuse(m, half)
		}
	}
}

// What holds everywhere: answers are new memory.
func TestErasedIsNew(t *testing.T) {
	m := some(5)
	m.Erased = 1
	want, exc := lost(m, 0)
	n, first, _ := conceal.Erased(m, 0)
	_, second, _ := conceal.Erased(m, 0)
	spoil(first)
	if n != want || !slices.Equal(second, exc) {
		t.Error("Erased: the answers share memory")
	}
}
