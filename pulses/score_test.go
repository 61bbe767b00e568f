package pulses_test

import (
	"slices"
	"testing"

	"voxsat/api"
	"voxsat/pulses"
)

type pair struct{ c, e int }

// heard is Score another way: the energy is that of the samples that all pulses, each with its ring behind it, make together.
func heard(d, ring []int, index places) pair {
	var out pair
	all := make([]int, 40)
	for track, place := range index {
		p := 4*place + track
		turn := 1
		if d[p] < 0 {
			turn = -1
		}
		out.c += turn * d[p]
		for i := p; i < 40; i++ {
			all[i] += turn * ended(ring[i-p])
		}
	}
	for _, x := range all {
		out.e += x * x
	}
	return out
}

// P8.5: numbers that were worked out by hand. With a ring of 10 and 5 a pulse's energy is 125 (at the last sample 100), that of two beside each other 50.
func TestScoreByHand(t *testing.T) {
	ring := first(10, 5)
	for _, x := range []struct {
		remark string
		d      []int
		ring   []int
		index  places
		want   pair
	}{
		{"noughts", first(), first(), places{}, pair{}},
		{"noughts count as above 0", first(), ring, places{}, pair{0, 500 + 2*150}},
		{"all above 0", first(1, 10, 100, 1000), ring, places{}, pair{1111, 500 + 2*150}},
		{"all below 0", first(-1, -10, -100, -1000), ring, places{}, pair{1111, 500 + 2*150}},
		{"by turns", first(1, -10, 100, -1000), ring, places{}, pair{1111, 500 - 2*150}},
		{"the first one below 0", first(-1, 10, 100, 1000), ring, places{}, pair{1111, 500 + 2*50}},
		{"the last one below 0", first(1, 10, 100, -1000), ring, places{}, pair{1111, 500 + 2*50}},
		{"a nought beside one below 0", first(0, -1, 0, 0), ring, places{}, pair{1, 500 - 2*50}},
		{"far from each other", with(map[int]int{0: 3, 37: -5, 18: 7, 27: 9}), ring, places{0, 9, 4, 6}, pair{24, 500}},
		{"at the end", with(map[int]int{36: 3, 37: 5, 38: 7, 39: 9}), ring, places{9, 9, 9, 9}, pair{24, 475 + 2*150}},
		{"at the end, the last one below 0", with(map[int]int{36: 3, 37: 5, 38: 7, 39: -9}), ring, places{9, 9, 9, 9}, pair{24, 475 + 2*50}},
		{"the fourth track beside the next place of the first", with(map[int]int{4: 1, 3: 1}), ring, places{1, 5, 7, 0}, pair{2, 500 + 2*50}},
		{"other samples do not count", append([]int{0, 0, 0, 0}, turning(36, 999, -999)...), ring, places{}, pair{0, 500 + 2*150}},
		{"a ring that is stopped", first(1, -1, 1, -1), first(most, least), places{}, pair{4, 4*(32767*32767+1<<30) + 2*3*32767*32768}},
		// One pulse comes to the first sample, two to the next, three to that behind it, four to the other 37.
		{"the greatest energy", turning(40, 1, 1), turning(40, -32768, -32768), places{}, pair{4, (1 + 4 + 9 + 37*16) << 30}},
		{"sums wrap", first(most, most, most, most), first(), places{}, pair{-4, 0}},
		{"two sums that wrap", first(most, 1), first(), places{}, pair{least, 0}},
		{"the least number without its sign wraps", first(least), first(1), places{}, pair{least, 4}},
		{"two of them", first(least, least), first(1), places{}, pair{0, 4}},
		{"it has a sign all the same", first(least, 1), ring, places{}, pair{least + 1, 500 + 2*(-50+50+50)}},
	} {
		c, e, errno := pulses.Score(x.d, x.ring, x.index)
		if got := (pair{c, e}); got != x.want || errno != api.OK {
			t.Errorf("Score, %s: %v, %d; wanted %v", x.remark, got, errno, x.want)
		}
	}
}

// P8.5: the energy is the sum of Energy over all pairs, the pulses' signs apart.
func TestScoreIsEnergies(t *testing.T) {
	ring := mixed(40, 31, 15)
	for _, x := range []struct {
		d    []int
		sign [4]int
	}{
		{turning(40, 0, 0), [4]int{1, 1, 1, 1}},
		{turning(40, -1, -1), [4]int{-1, -1, -1, -1}},
		{turning(40, 5, -5), [4]int{1, -1, 1, -1}},
		{turning(40, -5, 5), [4]int{-1, 1, -1, 1}},
	} {
		for _, index := range []places{{}, {9, 9, 9, 9}, {0, 3, 9, 5}, {7, 2, 2, 8}} {
			want := 0
			for i, a := range index {
				for j, b := range index {
					n, _ := pulses.Energy(ring, 4*a+i, 4*b+j)
					want += x.sign[i] * x.sign[j] * n
				}
			}
			if _, e, errno := pulses.Score(x.d, ring, index); e != want || errno != api.OK {
				t.Errorf("Score, signs %v, places %v: %d, %d; wanted %d", x.sign, index, e, errno, want)
			}
		}
	}
}

// P8.5, at numbers of every width.
func TestScoreOfAll(t *testing.T) {
	for width := uint(1); width <= 18; width++ {
		for seed := uint32(1); seed <= 20; seed++ {
			d, ring := mixed(40, seed, width+12), mixed(40, 900+seed, width)
			for n := range 50 {
				index := places{n % 10, n / 5, (n * 7) % 10, (n*3 + 1) % 10}
				c, e, errno := pulses.Score(d, ring, index)
				if got := (pair{c, e}); errno != api.OK || got != heard(d, ring, index) {
					t.Errorf("Score(%v, %v, %v): %v, %d; wanted %v", d, ring, index, got, errno, heard(d, ring, index))
				}
			}
		}
	}
}

// P8.5: lists of wrong lengths, ahead of wrong places; wrong places on every track.
func TestScoreRefuses(t *testing.T) {
	refused := func(d, ring []int, index places, want api.Errno) {
		t.Helper()
		if c, e, errno := pulses.Score(d, ring, index); c != 0 || e != 0 || errno != want {
			t.Errorf("Score(%d numbers, %d numbers, %v): %d, %d, %d; wanted %d", len(d), len(ring), index, c, e, errno, want)
		}
	}
	good := mixed(40, 5, 16)
	refused(nil, nil, places{}, api.ErrSize)
	for _, n := range []int{0, 1, 39, 41, 80, 1000} {
		for _, index := range []places{{}, {9, 9, 9, 9}, {10}, {3: -1}, {least, most, 10, 11}} {
			refused(turning(n, 1, 1), good, index, api.ErrSize)
			refused(good, turning(n, 1, 1), index, api.ErrSize)
			refused(turning(n, 1, 1), turning(n, 1, 1), index, api.ErrSize)
		}
	}
	for _, bad := range noPlaces() {
		for track := range 4 {
			index := places{1, 2, 3, 4}
			index[track] = bad
			refused(good, good, index, api.ErrRange)
			refused(first(), first(), index, api.ErrRange)
			refused(turning(40, most, least), turning(40, least, most), index, api.ErrRange)
		}
		refused(good, good, places{bad, bad, bad, bad}, api.ErrRange)
	}
}

// What holds everywhere: lists stay as they are, with their spare room.
func TestScoreKeepsNothing(t *testing.T) {
	d, ring := mixed(100, 12, 30), mixed(100, 13, 20)
	ds, rings := slices.Clone(d), slices.Clone(ring)
	for range 2 {
		c, e, _ := pulses.Score(d[20:60], ring[30:70], places{5, 1, 0, 9})
		if got := (pair{c, e}); !slices.Equal(d, ds) || !slices.Equal(ring, rings) || got != heard(ds[20:60], rings[30:70], places{5, 1, 0, 9}) {
			t.Error("Score changed what was handed in")
		}
	}
}
