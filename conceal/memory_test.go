package conceal_test

import (
	"math"
	"strconv"
	"testing"

	"voxsat/api"
	"voxsat/conceal"
)

const most, least = math.MaxInt64, math.MinInt64

type history = [api.History]int

// number is one of a memory, and its bounds.
type number struct {
	name       string
	at         *int
	low, bound int
}

// numbers are those that the chapter names bounds of.
func numbers(m *api.Memory) []number {
	l := []number{
		{"Gain", &m.Gain, 0, 32767},
		{"Pitch", &m.Pitch, 0, 18022},
		{"Lag", &m.Lag, 20, 79},
		{"Erased", &m.Erased, 0, 6},
		{"Seed", &m.Seed, 0, 65535},
	}
	for i := range m.Refl {
		l = append(l, number{"Refl " + strconv.Itoa(i), &m.Refl[i], -31000, 31000})
	}
	for i := range m.Past {
		l = append(l, number{"Past " + strconv.Itoa(i), &m.Past[i], -32768, 32767})
	}
	for i := range m.Exc {
		l = append(l, number{"Exc " + strconv.Itoa(i), &m.Exc[i], -32768, 32767})
	}
	return l
}

// mixed is a function that tells numbers from low to bound, the same ones for the same seed.
func mixed(seed uint32) func(low, bound int) int {
	return func(low, bound int) int {
		seed = seed*1664525 + 1013904223
		return low + int(seed>>8)%(bound-low+1)
	}
}

// some is a good memory, the same one for the same seed.
func some(seed uint32) api.Memory {
	m := api.Memory{Silence: seed%2 == 1}
	next := mixed(seed)
	for _, x := range numbers(&m) {
		*x.at = next(x.low, x.bound)
	}
	return m
}

// smallest is the memory whose numbers are all as small as they may be.
func smallest() api.Memory {
	var m api.Memory
	for _, x := range numbers(&m) {
		*x.at = x.low
	}
	return m
}

// greatest is the memory whose numbers are all as great as they may be.
func greatest() api.Memory {
	m := api.Memory{Silence: true}
	for _, x := range numbers(&m) {
		*x.at = x.bound
	}
	return m
}

// beyond are what a number of these bounds may not be, some only just.
func beyond(low, bound int) []int {
	return []int{
		low - 1, bound + 1, low - 2, bound + 2, low - 256, bound + 256, low - 1<<16, bound + 1<<16,
		low - 1<<32, low + 1<<32, bound - 1<<32, bound + 1<<32, 1 << 62, -1 << 62, most, most - 1, least, least + 1,
	}
}

// bad are memories that are not good, a single number of each being out of its bounds.
func bad() []api.Memory {
	var l []api.Memory
	for _, m := range []api.Memory{conceal.Fresh(), greatest(), some(4)} {
		for i, x := range numbers(&m) {
			for _, n := range []int{x.low - 1, x.bound + 1, most, least} {
				turned := m
				*numbers(&turned)[i].at = n
				l = append(l, turned)
			}
		}
	}
	return append(l, api.Memory{})
}

// P11.1: all numbers of a fresh memory, which is good.
func TestFresh(t *testing.T) {
	want := api.Memory{Lag: 20, Seed: 21845}
	if m := conceal.Fresh(); m != want || m.Silence || !conceal.Good(m) {
		t.Errorf("Fresh: %v; wanted %v, a good one", m, want)
	}
	m := conceal.Fresh()
	m.Exc[0], m.Lag, m.Seed = 7, 33, 1
	if again := conceal.Fresh(); again != want {
		t.Errorf("Fresh once more: %v; wanted %v", again, want)
	}
}

// P11.1: every number at its bounds, beside them and amidst, the others being this or that.
func TestGood(t *testing.T) {
	for i, m := range []api.Memory{conceal.Fresh(), smallest(), greatest(), some(1)} {
		if !conceal.Good(m) {
			t.Errorf("Good of memory %d: false", i)
		}
		for j, x := range numbers(&m) {
			for _, n := range []int{x.low, x.low + 1, (x.low + x.bound) / 2, x.bound - 1, x.bound} {
				turned := m
				*numbers(&turned)[j].at = n
				if !conceal.Good(turned) {
					t.Errorf("Good of memory %d, %s being %d: false", i, x.name, n)
				}
			}
		}
		m.Silence = !m.Silence
		if !conceal.Good(m) {
			t.Errorf("Good of memory %d, Silence turned: false", i)
		}
	}
	for seed := range uint32(2000) {
		if m := some(seed); !conceal.Good(m) {
			t.Errorf("Good(%v): false", m)
		}
	}
}

// P11.1: every number out of its bounds, it alone.
func TestGoodRefuses(t *testing.T) {
	for i, m := range []api.Memory{conceal.Fresh(), smallest(), greatest(), some(2)} {
		for j, x := range numbers(&m) {
			for _, n := range beyond(x.low, x.bound) {
				turned := m
				*numbers(&turned)[j].at = n
				if conceal.Good(turned) {
					t.Errorf("Good of memory %d, %s being %d: true", i, x.name, n)
				}
			}
		}
	}
	if conceal.Good(api.Memory{}) {
		t.Error("Good of noughts: true, but 0 is no lag")
	}
}
