package conceal_test

import (
	"slices"
	"testing"

	"voxsat/api"
	"voxsat/conceal"
)

// P11.5: two halves of silence at first: numbers that were worked out apart from the program.
func TestSilentAtFirst(t *testing.T) {
	first := []int{-8, -3, 5, 5, -3, -4, -3, -4, 6, 6, 2, -7, -6, -7, -8, 1, 7, -2, -3, 2, -4, -5, -3, -7, 1, 3, -3, -3, -6, 2, 1, 3, -7, 2, 7, -7, -6, -6, -6, -4}
	second := []int{6, -5, 1, 3, 1, 3, -2, 2, -3, -5, 1, -6, 6, -7, 4, 4, 6, -1, -3, -6, -1, -5, 0, 0, 4, 7, -4, 4, 2, 7, -6, 3, 0, -1, 3, 4, 4, -5, 7, -5}
	want := api.Memory{Lag: 20, Seed: 17773, Exc: history(append(make([]int, 40), first...))}
	m, l, errno := conceal.Silent(conceal.Fresh())
	if errno != api.OK || m != want || !slices.Equal(l, first) {
		t.Errorf("Silent: %v, %v, %d; wanted %v, %v", m, l, errno, want, first)
	}
	want.Seed, want.Exc = 13445, history(append(slices.Clone(first), second...))
	m, l, errno = conceal.Silent(m)
	if errno != api.OK || m != want || !slices.Equal(l, second) {
		t.Errorf("Silent once more: %v, %v, %d; wanted %v, %v", m, l, errno, want, second)
	}
}

// P11.5, against steps of the test's own: every seed; gains, pitch and what was lost change nothing, and stay.
func TestSilentOfAll(t *testing.T) {
	try := func(m api.Memory) {
		want := m
		var exc []int
		want.Seed, exc = sound(m.Seed, 8)
		want.Exc = history(append(slices.Clone(m.Exc[40:]), exc...))
		if n, l, errno := conceal.Silent(m); errno != api.OK || n != want || !slices.Equal(l, exc) || !conceal.Good(n) {
			t.Fatalf("Silent(%v): %v, %v, %d; wanted %v, %v", m, n, l, errno, want, exc)
		}
	}
	for seed := range 65536 {
		m := conceal.Fresh()
		m.Seed = seed
		try(m)
	}
	for seed := range uint32(2000) {
		try(some(seed))
	}
	for _, m := range []api.Memory{smallest(), greatest()} {
		for erased := range 7 {
			m.Erased = erased
			m.Silence = !m.Silence
			try(m)
		}
	}
}

// P11.5: memories that are not good.
func TestSilentRefuses(t *testing.T) {
	for _, m := range bad() {
		if n, l, errno := conceal.Silent(m); errno != api.ErrRange || n != (api.Memory{}) || len(l) != 0 {
			t.Errorf("Silent(%v): %v, %v, %d; wanted nothing, ErrRange", m, n, l, errno)
		}
	}
}

// What holds everywhere: answers are new memory.
func TestSilentIsNew(t *testing.T) {
	m := some(6)
	seed, exc := sound(m.Seed, 8)
	n, first, _ := conceal.Silent(m)
	_, second, _ := conceal.Silent(m)
	spoil(first)
	if n.Seed != seed || !slices.Equal(n.Exc[40:], exc) || !slices.Equal(second, exc) {
		t.Error("Silent: the answers share memory")
	}
}
