package pitch_test

import (
	"math/big"
	"slices"
	"testing"

	"voxsat/api"
	"voxsat/pitch"
	"voxsat/synth"
)

type folding = func(l []int) []int

type picked struct{ lag, c, e int }

func plain(l []int) []int { return l }

// script is a fold that answers what stands in it for a lag, noughts for the others; it tells lags apart by how often it was called.
func script(vectors map[int][]int) folding {
	lag := 19
	return func([]int) []int {
		lag++
		return append(slices.Clone(vectors[lag]), make([]int, 40-len(vectors[lag]))...)
	}
}

// sum is the sum of products by numbers without bounds.
func sum(a, b []int) *big.Int {
	s := new(big.Int)
	for i, x := range a {
		s.Add(s, new(big.Int).Mul(big.NewInt(int64(x)), big.NewInt(int64(b[i]))))
	}
	return s
}

// foremost goes through the vectors of the lags 20 to 79 by fractions without bounds.
func foremost(target []int, vectors [][]int) picked {
	kept := picked{lag: 20}
	var highest *big.Rat
	for i, v := range vectors {
		c, e := sum(target, v), sum(v, v)
		if c.Sign() <= 0 || e.Sign() <= 0 {
			continue
		}
		height := new(big.Rat).SetFrac(new(big.Int).Mul(c, c), e)
		if highest == nil || height.Cmp(highest) > 0 {
			highest = height
			kept = picked{20 + i, int(c.Int64()), int(e.Int64())}
		}
	}
	return kept
}

// vectorsOf are what fold makes of the pasts of the lags 20 to 79.
func vectorsOf(h history, fold folding) [][]int {
	var l [][]int
	for lag := 20; lag <= 79; lag++ {
		l = append(l, fold(repeated(h, lag)))
	}
	return l
}

func ringFold(a [api.Order + 1]int) folding {
	ring, _ := synth.Ring(a, api.Half)
	return func(l []int) []int {
		v, _ := synth.Fold(ring, l)
		return v
	}
}

// first are forty numbers: these, and noughts.
func first(l ...int) []int { return append(l, make([]int, 40-len(l))...) }

// P7.2: numbers that were worked out by hand. With the target 10, 1 and noughts, c is ten times the first number of a vector and the second one.
func TestPickByHand(t *testing.T) {
	top, bottom := turning(40, 32767, 32767), turning(40, -32768, -32768)
	for _, x := range []struct {
		remark  string
		vectors map[int][]int
		want    picked
	}{
		{"none", nil, picked{20, 0, 0}},
		{"only the first lag", map[int][]int{20: {3}}, picked{20, 30, 9}},
		{"only the last lag", map[int][]int{79: {3}}, picked{79, 30, 9}},
		{"only a lag between", map[int][]int{47: {3, 4}}, picked{47, 34, 25}},
		{"c is 0 everywhere", map[int][]int{20: {0, 0, 5}, 33: {1, -10}, 79: {0, 0, 0, 9}}, picked{20, 0, 0}},
		{"c is below 0 everywhere", map[int][]int{20: {-5}, 21: {-1, 9}, 79: {-32768}}, picked{20, 0, 0}},
		{"c below 0 is passed over", map[int][]int{20: {-500}, 30: {1, 3, 3}, 40: {-9}}, picked{30, 13, 19}},
		{"c of 0 is passed over", map[int][]int{20: {0, 0, 1}, 30: {1, -9, 100}, 40: {0, 0, 1}}, picked{30, 1, 10082}},
		{"the first one of equals", map[int][]int{25: {2}, 35: {2}, 45: {2}}, picked{25, 20, 4}},
		{"the first one of equal quotients", map[int][]int{25: {7}, 35: {1}, 45: {300}}, picked{25, 70, 49}},
		// 100 * 100 / 101, 101 * 101 / 101, 99 * 99 / 101.
		{"the higher one later", map[int][]int{25: {10, 0, 1}, 35: {10, 1}, 45: {10, -1}}, picked{35, 101, 101}},
		{"the higher one earlier", map[int][]int{25: {10, 1}, 35: {10, 0, 1}, 45: {10, -1}}, picked{25, 101, 101}},
		{"rising all the way", map[int][]int{20: {1, 0, 3}, 21: {1, 0, 2}, 22: {1, 0, 1}, 79: {1}}, picked{79, 10, 1}},
		{"a great c alone is not enough", map[int][]int{30: {10, 1}, 50: {1000, 0, 1000}}, picked{30, 101, 101}},
		{"nor is a small e", map[int][]int{30: {10, 1}, 50: {0, 1}}, picked{30, 101, 101}},
		// 100 / 11, 400 / 41, 100 / 11: in whole numbers 9, all of them.
		{"quotients that differ behind the point", map[int][]int{30: {1, 0, 3, 1}, 31: {2, 0, 6, 1}, 32: {1, 0, 3, 1}}, picked{31, 20, 41}},
		{"all samples at the top", map[int][]int{60: top}, picked{60, 11 * 32767, 40 * 32767 * 32767}},
		{"all samples at the bottom", map[int][]int{60: bottom}, picked{20, 0, 0}},
	} {
		lag, c, e, errno := pitch.Pick(history{}, script(x.vectors), first(10, 1))
		if got := (picked{lag, c, e}); got != x.want || errno != api.OK {
			t.Errorf("Pick, %s: %v, %d; wanted %v", x.remark, got, errno, x.want)
		}
	}
}

// P7.2: samples at the ends are samples yet, and their sums are stopped nowhere.
func TestPickAtTheEnds(t *testing.T) {
	top, bottom := turning(40, 32767, 32767), turning(40, -32768, -32768)
	for _, x := range []struct {
		remark    string
		h, target []int
		want      picked
	}{
		{"both at the bottom", turning(80, -32768, -32768), bottom, picked{20, 40 << 30, 40 << 30}},
		{"both at the top", turning(80, 32767, 32767), top, picked{20, 40 * 32767 * 32767, 40 * 32767 * 32767}},
		{"one at each", turning(80, 32767, 32767), bottom, picked{20, 0, 0}},
		{"by turns", turning(80, 32767, -32768), turning(40, 32767, -32768), picked{20, 20*32767*32767 + 20<<30, 20*32767*32767 + 20<<30}},
	} {
		lag, c, e, errno := pitch.Pick(history(x.h), plain, x.target)
		if got := (picked{lag, c, e}); errno != api.OK || got != x.want {
			t.Errorf("Pick, %s: %v, %d; wanted %v", x.remark, got, errno, x.want)
		}
	}
}

// P7.2: which lag a beat has.
func TestPickFindsTheBeat(t *testing.T) {
	for beat := 20; beat <= 79; beat++ {
		var h history
		h[80-beat] = 1000
		lag, c, e, errno := pitch.Pick(h, plain, first(500))
		want := picked{beat, 500000, 1000000}
		if beat < 40 {
			// Within forty numbers the beat comes again.
			want.e = 2000000
		}
		if got := (picked{lag, c, e}); got != want || errno != api.OK {
			t.Errorf("Pick, beat %d: %v, %d; wanted %v", beat, got, errno, want)
		}
	}
}

// P7.2, against fractions without bounds.
func TestPickOfAll(t *testing.T) {
	folds := []folding{
		plain,
		ringFold([9]int{4096, -3000, 1200}),
		ringFold([9]int{4096, -7000, 3000, 500, -300, 200, -100, 50, -25}),
		func(l []int) []int { slices.Reverse(l); return l },
		func(l []int) []int {
			for i, x := range l {
				l[i] = x >> 12
			}
			return l
		},
		func(l []int) []int { return mixed(40, uint32(l[0]+7*l[39]+31*l[20]), 16) },
	}
	for seed := uint32(1); seed <= 30; seed++ {
		for _, width := range []uint{2, 3, 6, 11, 16} {
			h := history(mixed(80, seed, width))
			target := mixed(40, 500+seed, 18-width)
			for i, fold := range folds {
				lag, c, e, errno := pitch.Pick(h, fold, target)
				want := foremost(target, vectorsOf(h, fold))
				if got := (picked{lag, c, e}); errno != api.OK || got != want {
					t.Errorf("Pick, seed %d, %d bits, fold %d: %v, %d; wanted %v", seed, width, i, got, errno, want)
				}
			}
		}
	}
}

// P7.2: fold is called once a lag, rising, with Past of it.
func TestPickCallsFold(t *testing.T) {
	h := history(mixed(80, 4, 16))
	var seen [][]int
	pitch.Pick(h, func(l []int) []int {
		seen = append(seen, slices.Clone(l))
		return l
	}, mixed(40, 5, 16))
	if want := vectorsOf(h, plain); !slices.EqualFunc(seen, want, slices.Equal) {
		t.Errorf("Pick called fold with %v; wanted %v", seen, want)
	}
}

func refuses(t *testing.T, remark string, h history, fold folding, target []int, want api.Errno) {
	t.Helper()
	lag, c, e, errno := pitch.Pick(h, fold, target)
	if errno != want || (picked{lag, c, e}) != (picked{}) {
		t.Errorf("Pick, %s: %d, %d, %d, %d; wanted %d", remark, lag, c, e, errno, want)
	}
}

// P7.2: wrong targets, a fold that is nil, numbers that are no samples.
func TestPickRefuses(t *testing.T) {
	good, target := history(mixed(80, 6, 16)), mixed(40, 7, 16)
	uncalled := func(l []int) []int {
		t.Error("fold is called, though the rest is wrong")
		return l
	}
	for _, n := range []int{0, 1, 39, 41, 80, 1000} {
		refuses(t, "size of the target", good, uncalled, make([]int, n), api.ErrSize)
		refuses(t, "size of the target, no fold", good, nil, make([]int, n), api.ErrSize)
	}
	refuses(t, "no target", good, uncalled, nil, api.ErrSize)
	refuses(t, "no fold", good, nil, target, api.ErrSize)
	refuses(t, "nothing", history{}, nil, nil, api.ErrSize)
	for _, bad := range noSamples() {
		for i := range target {
			wrong := slices.Clone(target)
			wrong[i] = bad
			refuses(t, "target", good, uncalled, wrong, api.ErrRange)
			refuses(t, "target, no fold", good, nil, wrong, api.ErrSize)
			refuses(t, "target, too short", good, uncalled, wrong[:39], api.ErrSize)
		}
		for i := range good {
			wrong := good
			wrong[i] = bad
			refuses(t, "history", wrong, uncalled, target, api.ErrRange)
			refuses(t, "history, no fold", wrong, nil, target, api.ErrSize)
			refuses(t, "history, target too short", wrong, uncalled, target[:39], api.ErrSize)
			refuses(t, "history, target too long", wrong, uncalled, make([]int, 41), api.ErrSize)
		}
	}
	refuses(t, "history, and a fold that answers nothing", history{79: 32768}, func([]int) []int { return nil }, target, api.ErrRange)
}

// P7.2: a fold whose answer is wrong at one lag only, whichever that is.
func TestPickRefusesAnswers(t *testing.T) {
	h, target := history(mixed(80, 8, 16)), mixed(40, 9, 16)
	at := func(wrong int, answer folding) folding {
		lag := 19
		return func(l []int) []int {
			if lag++; lag == wrong {
				return answer(l)
			}
			return l
		}
	}
	for lag := 20; lag <= 79; lag++ {
		refuses(t, "a fold that answers nil", h, at(lag, func([]int) []int { return nil }), target, api.ErrSize)
		refuses(t, "a fold that answers 39", h, at(lag, func(l []int) []int { return l[:39] }), target, api.ErrSize)
		refuses(t, "a fold that answers 41", h, at(lag, func(l []int) []int { return append(l, 0) }), target, api.ErrSize)
		refuses(t, "a fold that answers 80", h, at(lag, func(l []int) []int { return append(l, l...) }), target, api.ErrSize)
		refuses(t, "a fold that panics", h, at(lag, func([]int) []int { panic("no answer") }), target, api.ErrSize)
		refuses(t, "a fold that reaches beyond its list", h, at(lag, func(l []int) []int { l[len(l)] = 1; return l }), target, api.ErrSize)
		for i, bad := range noSamples() {
			refuses(t, "a fold that answers no samples", h, at(lag, func(l []int) []int { l[(lag+i)%40] = bad; return l }), target, api.ErrSize)
		}
	}
	for i := range 40 {
		refuses(t, "a fold that answers no sample", h, func(l []int) []int { l[i] = 32768; return l }, target, api.ErrSize)
	}
}

// What holds everywhere: the target stays as it is, with its spare room; a fold that keeps or changes lists changes nothing but what it answers.
func TestPickKeepsNothing(t *testing.T) {
	h, all := history(mixed(80, 10, 12)), mixed(60, 11, 12)
	was := slices.Clone(all)
	want := foremost(all[10:50], vectorsOf(h, plain))
	var kept [][]int
	one := make([]int, 40)
	for i, fold := range []folding{
		plain,
		func(l []int) []int { defer spoil(l); return slices.Clone(l) },
		func(l []int) []int { copy(one, l); return one },
		func(l []int) []int {
			for _, old := range kept {
				spoil(old)
			}
			kept = append(kept, l)
			return l
		},
	} {
		lag, c, e, errno := pitch.Pick(h, fold, all[10:50])
		if got := (picked{lag, c, e}); errno != api.OK || got != want || !slices.Equal(all, was) {
			t.Errorf("Pick, fold %d: %v, %d; wanted %v, and the target as it was", i, got, errno, want)
		}
	}
	lag, c, e, errno := pitch.Pick(h, func(l []int) []int { spoil(all[10:50]); return l }, all[10:50])
	if got := (picked{lag, c, e}); errno != api.OK || got != want {
		t.Errorf("Pick, a fold that changes the target: %v, %d; wanted %v", got, errno, want)
	}
}
