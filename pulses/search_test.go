package pulses_test

import (
	"math/big"
	"slices"
	"testing"

	"voxsat/api"
	"voxsat/pulses"
)

type searching = func(d, ring []int) (places, int, api.Errno)

type found struct {
	index places
	signs int
}

// above is whether x is Better than y, by numbers without bounds; c is never below 0 here.
func above(x, y pair) bool {
	if x.e <= 0 || y.e <= 0 {
		return x.e > 0
	}
	square := func(c, e int) *big.Int {
		n := big.NewInt(int64(c))
		return n.Mul(n, n).Mul(n, big.NewInt(int64(e)))
	}
	return square(x.c, y.e).Cmp(square(y.c, x.e)) > 0
}

// foremost is the first one of the best.
func foremost(d, ring []int, all []places) places {
	kept := all[0]
	score := heard(d, ring, kept)
	for _, index := range all[1:] {
		if next := heard(d, ring, index); above(next, score) {
			kept, score = index, next
		}
	}
	return kept
}

func signed(d []int, index places) found {
	signs := 0
	for track, place := range index {
		if d[4*place+track] >= 0 {
			signs += 1 << track
		}
	}
	return found{index, signs}
}

// everywhere are all places, the digits of the numbers from 0 to 9999.
func everywhere() []places {
	var l []places
	for n := range 10000 {
		l = append(l, places{n / 1000, n / 100 % 10, n / 10 % 10, n % 10})
	}
	return l
}

func ofAll(d, ring []int) found { return signed(d, foremost(d, ring, everywhere())) }

// ofFew goes round so often.
func ofFew(d, ring []int, rounds int) found {
	var index places
	for n := range 4 * rounds {
		var ten []places
		for place := range 10 {
			next := index
			next[n%4] = place
			ten = append(ten, next)
		}
		index = foremost(d, ring, ten)
	}
	return signed(d, index)
}

func finds(t *testing.T, remark string, f searching, d, ring []int, want found) {
	t.Helper()
	index, signs, errno := f(d, ring)
	if got := (found{index, signs}); got != want || errno != api.OK {
		t.Errorf("%s: %v, %d; wanted %v", remark, got, errno, want)
	}
}

// P8.6, P8.7: where a ring is one number, every energy is the same and the greatest numbers of d win, whatever their signs.
func TestSearchByHand(t *testing.T) {
	for _, x := range []struct {
		remark string
		d      []int
		ring   []int
		want   found
	}{
		{"nothing", first(), first(), found{places{}, 15}},
		{"no target", first(), first(1), found{places{}, 15}},
		{"no ring", turning(40, 5, -5), first(), found{places{}, 5}},
		{"no ring, the other way round", turning(40, -5, 5), first(), found{places{}, 10}},
		{"no ring, all below 0", turning(40, -5, -5), first(), found{places{}, 0}},
		{"one pulse a track", with(map[int]int{8: 90, 21: -80, 14: 70, 35: -60}), first(1), found{places{2, 5, 3, 8}, 5}},
		{"the last places", with(map[int]int{36: -9, 37: 8, 38: -7, 39: 6}), first(1), found{places{9, 9, 9, 9}, 10}},
		{"one track alone", with(map[int]int{22: -1}), first(1), found{places{0, 0, 5, 0}, 11}},
		{"equals above 0", turning(40, 7, 7), first(1), found{places{}, 15}},
		{"equals below 0", turning(40, -7, -7), first(1), found{places{}, 0}},
		{"equals of both signs", with(map[int]int{4: -3, 16: 3, 9: 3, 33: -3, 2: 3, 38: -3, 3: -3, 7: 3}), first(1), found{places{1, 2, 0, 0}, 6}},
		{"greater ones later", with(map[int]int{4: 3, 16: -4, 9: -3, 33: 4, 2: -3, 38: 4, 3: 3, 7: -4}), first(1), found{places{4, 8, 9, 1}, 6}},
		{"greater ones earlier", with(map[int]int{4: 4, 16: -3, 9: -4, 33: 3, 2: -4, 38: 3, 3: 4, 7: -3}), first(1), found{places{1, 2, 0, 0}, 9}},
		{"the greatest and the least", with(map[int]int{12: 1 << 40, 13: -1 << 40, 14: 1<<40 - 1, 15: 1 - 1<<40}), first(1), found{places{3, 3, 3, 3}, 5}},
		{"one more than the greatest but one", with(map[int]int{12: 1<<40 - 1, 16: 1 << 40, 17: 1<<40 - 1, 21: -1 << 40, 3: 1 << 40, 39: -1 << 40, 2: -1 << 40}), first(-32768), found{places{4, 5, 0, 0}, 9}},
		{"no target, though less energy at the end", first(), first(5, 5), found{places{}, 15}},
		{"a ring that is stopped", with(map[int]int{8: 90, 21: -80, 14: 70, 35: -60}), first(most), found{places{2, 5, 3, 8}, 5}},
		{"a ring that is stopped below", with(map[int]int{8: 90, 21: -80, 14: 70, 35: -60}), first(least), found{places{2, 5, 3, 8}, 5}},
	} {
		finds(t, "All, "+x.remark, pulses.All, x.d, x.ring, x.want)
		finds(t, "Few, "+x.remark, pulses.Few, x.d, x.ring, x.want)
	}
}

// P8.6, P8.7: where they part. By turns with a ring of 5, 5 four pulses on end have an energy of 50, only at the very end 25; but from 0, 1, 2, 3 no single step goes there.
func TestSearchesPart(t *testing.T) {
	d, ring := turning(40, 1, -1), first(5, 5)
	finds(t, "All, by turns", pulses.All, d, ring, found{places{9, 9, 9, 9}, 5})
	finds(t, "Few, by turns", pulses.Few, d, ring, found{places{}, 5})
}

// P8.7: two rounds, not one, not three; and each one begins at its track's first place again, not at the one that is kept.
func TestFewGoesRoundTwice(t *testing.T) {
	for _, x := range []struct {
		remark string
		d      []int
		ring   []int
		want   found
	}{
		{
			"the second round goes on from 3, 7, 2, 1",
			[]int{1, 1, -1, 0, 1, 1, 1, -2, 1, -1, -2, 1, -2, 1, -1, -2, 1, 0, -2, 0, 0, 1, 1, -1, 1, -1, -1, 0, -2, -2, -1, -2, 1, 0, 0, -2, 1, -1, 1, 0},
			first(-1, 1),
			found{places{7, 7, 7, 7}, 0},
		},
		{
			"a third round would go on to 9, 3, 9, 9",
			[]int{1, -1, -2, 0, -1, 1, -1, 0, 0, -1, -2, 1, 0, -2, 0, 0, -2, -1, -1, -1, 1, -1, -1, -2, -2, -1, 1, -2, 1, -1, 0, -1, 1, 1, -1, -1, -2, 0, 1, -2},
			first(-1, 0, -4),
			found{places{4, 3, 9, 9}, 4},
		},
		{
			"6, 1, 6, 6 is as good, and was kept by the first round",
			[]int{-2, 0, 1, -2, 1, -1, 1, 1, 1, 0, 0, 1, 1, 1, 1, 1, 0, -1, -1, 0, 1, 1, 1, 1, -2, 1, -2, -2, 0, -1, 0, -1, -1, -1, -1, -1, 0, -1, 0, -2},
			first(0, -1, 1),
			found{places{0, 1, 6, 6}, 0},
		},
	} {
		finds(t, "Few, "+x.remark, pulses.Few, x.d, x.ring, x.want)
	}
}

// P8.6, against numbers without bounds.
func TestAllOfAll(t *testing.T) {
	for width := uint(2); width <= 17; width++ {
		for _, length := range []int{1, 2, 3, 5, 12, 40} {
			d, ring := mixed(40, uint32(length)+7*uint32(width), width), first(mixed(length, 40+uint32(width), 18-width)...)
			finds(t, "All", pulses.All, d, ring, ofAll(d, ring))
		}
	}
}

// P8.7, against numbers without bounds; among the inputs are those of which one round makes something else, and three.
func TestFewOfAll(t *testing.T) {
	once, thrice := 0, 0
	for width := uint(2); width <= 17; width++ {
		for _, length := range []int{1, 2, 3, 5, 12, 40} {
			for seed := uint32(1); seed <= 20; seed++ {
				d, ring := mixed(40, 100*seed+uint32(length)+7*uint32(width), width), first(mixed(length, 40*seed+uint32(width), 18-width)...)
				want := ofFew(d, ring, 2)
				finds(t, "Few", pulses.Few, d, ring, want)
				if want != ofFew(d, ring, 1) {
					once++
				}
				if want != ofFew(d, ring, 3) {
					thrice++
				}
			}
		}
	}
	if once < 100 || thrice < 100 {
		t.Errorf("too few inputs tell how often Few goes round: %d, %d", once, thrice)
	}
}

// P8.6, P8.7: targets as the codec has them, and numbers at all ends.
func TestSearchAtTheEnds(t *testing.T) {
	wide := func(seed uint32) []int {
		l := mixed(40, seed, 32)
		for i := range l {
			l[i] = max(-1<<40, min(l[i]<<9, 1<<40))
		}
		return l
	}
	for seed := uint32(1); seed <= 5; seed++ {
		target, _ := pulses.Target(mixed(40, seed, 16), mixed(40, 50+seed, 14))
		for _, d := range [][]int{target, wide(seed), turning(40, 1<<40, -1<<40), turning(40, -1<<40, 1<<40-1)} {
			for _, ring := range [][]int{
				mixed(40, 50+seed, 14), mixed(40, seed, 20), turning(40, -32768, -32768), turning(40, most, least), first(0, 0, 3), with(map[int]int{39: 1}), with(map[int]int{37: -1, 38: 2}),
			} {
				finds(t, "All", pulses.All, d, ring, ofAll(d, ring))
				finds(t, "Few", pulses.Few, d, ring, ofFew(d, ring, 2))
			}
		}
	}
}

// P8.6, P8.7: quotients that are exact or all but equal: c * c beyond 64 bits and e apart by little.
func TestSearchIsExact(t *testing.T) {
	for seed := uint32(1); seed <= 10; seed++ {
		d := mixed(40, seed, 2)
		for i := range d {
			d[i] += 1<<40 - 2
		}
		for _, ring := range [][]int{first(20000), first(20000, 1), first(20000, 0, 0, 1), first(20000, -1, 1)} {
			finds(t, "All", pulses.All, d, ring, ofAll(d, ring))
			finds(t, "Few", pulses.Few, d, ring, ofFew(d, ring, 2))
		}
	}
}

// P8.6, P8.7: lists of wrong lengths, ahead of wrong numbers; wrong numbers of d, at every place.
func TestSearchRefuses(t *testing.T) {
	good := mixed(40, 5, 16)
	wrong := []int{1<<40 + 1, -1<<40 - 1, 1 << 41, -1 << 41, 1 << 62, -1 << 62, most, least, least + 1}
	for name, f := range map[string]searching{"All": pulses.All, "Few": pulses.Few} {
		refused := func(d, ring []int, want api.Errno) {
			t.Helper()
			if index, signs, errno := f(d, ring); index != (places{}) || signs != 0 || errno != want {
				t.Errorf("%s(%v, %v): %v, %d, %d; wanted %d", name, d, ring, index, signs, errno, want)
			}
		}
		refused(nil, nil, api.ErrSize)
		for _, n := range []int{0, 1, 39, 41, 80, 1000} {
			refused(turning(n, 1, 1), good, api.ErrSize)
			refused(good, turning(n, 1, 1), api.ErrSize)
			refused(turning(n, 1, 1), turning(n, 1, 1), api.ErrSize)
			for _, bad := range wrong {
				refused(turning(40, bad, bad), turning(n, 1, 1), api.ErrSize)
				refused(turning(n, bad, bad), good, api.ErrSize)
			}
		}
		for _, bad := range wrong {
			for i := range good {
				d := slices.Clone(good)
				d[i] = bad
				refused(d, good, api.ErrRange)
				refused(d, first(), api.ErrRange)
			}
		}
	}
}

// What holds everywhere: lists stay as they are, with their spare room.
func TestSearchKeepsNothing(t *testing.T) {
	d, ring := mixed(100, 14, 30), mixed(100, 15, 20)
	ds, rings := slices.Clone(d), slices.Clone(ring)
	for range 2 {
		finds(t, "All", pulses.All, d[20:60], ring[30:70], ofAll(ds[20:60], rings[30:70]))
		finds(t, "Few", pulses.Few, d[20:60], ring[30:70], ofFew(ds[20:60], rings[30:70], 2))
	}
	if !slices.Equal(d, ds) || !slices.Equal(ring, rings) {
		t.Error("a search changed what was handed in")
	}
}
