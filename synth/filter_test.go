package synth_test

import (
	"math"
	"math/big"
	"slices"
	"testing"

	"voxsat/api"
	"voxsat/synth"
)

const most, least = math.MaxInt64, math.MinInt64

type (
	predictor = [api.Order + 1]int
	memory    = [api.Order]int
	filter    = func(predictor, memory, []int) ([]int, memory, api.Errno)
)

// noSamples are numbers that are beyond a sample's ends, some only just.
func noSamples() []int {
	return []int{32768, -32769, 65535, 65536, -65536, 1 << 31, -1 << 31, 1 << 32, 1<<32 + 5, 1 << 48, most, least}
}

// mixed are n numbers of at most so many bits, the same ones always.
func mixed(n int, seed uint32, width uint) []int {
	l := make([]int, n)
	x := seed
	for i := range l {
		x = x*1664525 + 1013904223
		l[i] = int(int32(x)) >> (32 - width)
	}
	return l
}

// turning are n numbers, x and y by turns.
func turning(n, x, y int) []int {
	l := make([]int, n)
	for i := range l {
		l[i], x, y = x, y, x
	}
	return l
}

func wide(x int) *big.Int { return big.NewInt(int64(x)) }

func times(a, b int) *big.Int { return new(big.Int).Mul(wide(a), wide(b)) }

// nearest is x / 2^12, rounded.
func nearest(x *big.Int) *big.Int {
	half := wide(2048)
	return half.Rsh(half.Add(half, x), 12)
}

// ended is x, or the end of 16 bits that is nearest to it.
func ended(x *big.Int) int {
	if x.Cmp(wide(32767)) > 0 {
		return 32767
	}
	if x.Cmp(wide(-32768)) < 0 {
		return -32768
	}
	return int(x.Int64())
}

// foretold is the guess by numbers without bounds; all are the samples so far, the oldest first.
func foretold(a predictor, all []int) *big.Int {
	sum := new(big.Int)
	for i := 1; i <= 8; i++ {
		sum.Add(sum, times(a[i], all[len(all)-i]))
	}
	return nearest(sum)
}

// backwards is the past as a list, the oldest sample first.
func backwards(past memory) []int {
	l := slices.Clone(past[:])
	slices.Reverse(l)
	return l
}

// newest is the past of all samples so far.
func newest(all []int) memory {
	l := slices.Clone(all[len(all)-8:])
	slices.Reverse(l)
	return memory(l)
}

// made is Make by numbers without bounds.
func made(a predictor, past memory, exc []int) ([]int, memory) {
	all := backwards(past)
	for _, x := range exc {
		all = append(all, ended(new(big.Int).Sub(wide(x), foretold(a, all))))
	}
	return all[8:], newest(all)
}

// undone is Undo by numbers without bounds.
func undone(a predictor, past memory, l []int) ([]int, memory) {
	all := append(backwards(past), l...)
	var out []int
	for i, x := range l {
		out = append(out, ended(new(big.Int).Add(wide(x), foretold(a, all[:i+8]))))
	}
	return out, newest(all)
}

type byHand struct {
	remark string
	a      predictor
	past   memory
	l      []int
	want   []int
	behind memory
}

func check(t *testing.T, name string, f filter, cases []byHand) {
	t.Helper()
	for _, x := range cases {
		got, behind, errno := f(x.a, x.past, x.l)
		if errno != api.OK || !slices.Equal(got, x.want) || behind != x.behind {
			t.Errorf("%s, %s: %v, %v, %d; wanted %v, %v", name, x.remark, got, behind, errno, x.want, x.behind)
		}
	}
}

// P6.1, P6.2: numbers that were worked out by hand.
func TestMakeByHand(t *testing.T) {
	eight := memory{1, 2, 3, 4, 5, 6, 7, 8}
	check(t, "Make", synth.Make, []byHand{
		{"nothing", predictor{4096, -2048}, eight, nil, nil, eight},
		{"no guess", predictor{4096}, eight, []int{-9, 32767, -32768}, []int{-9, 32767, -32768}, memory{-32768, 32767, -9, 1, 2, 3, 4, 5}},
		{"more than the past holds", predictor{4096}, eight, []int{11, 12, 13, 14, 15, 16, 17, 18, 19, 20}, []int{11, 12, 13, 14, 15, 16, 17, 18, 19, 20}, memory{20, 19, 18, 17, 16, 15, 14, 13}},
		// The guesses are -37.5, 1.5 and 12.75 of 4096, and half goes up.
		{"ordinary", predictor{4096, -2048, 1024}, memory{100, 50}, []int{10, 0, -5}, []int{47, -2, -18}, memory{-18, -2, 47, 100, 50}},
		{"half of a guess goes up", predictor{4096, 2048}, memory{1}, []int{0}, []int{-1}, memory{-1, 1}},
		{"half of a guess goes up below 0", predictor{4096, -2048}, memory{1}, []int{0}, []int{0}, memory{0, 1}},
		{"less than half", predictor{4096, 2047}, memory{1}, []int{0}, []int{0}, memory{0, 1}},
		{"more than half below 0", predictor{4096, -2049}, memory{1}, []int{0}, []int{1}, memory{1, 1}},
		{"the sum is rounded, not its parts", predictor{4096, 1024, 1024}, memory{1, 1}, []int{0}, []int{-1}, memory{-1, 1, 1}},
		{"just not stopped above", predictor{4096, -4096}, memory{32766}, []int{1, 0}, []int{32767, 32767}, memory{32767, 32767, 32766}},
		{"stopped above", predictor{4096, -4096}, memory{32767}, []int{1, -1}, []int{32767, 32766}, memory{32766, 32767, 32767}},
		{"just not stopped below", predictor{4096, -4096}, memory{-32767}, []int{-1, 0}, []int{-32768, -32768}, memory{-32768, -32768, -32767}},
		{"stopped below", predictor{4096, -4096}, memory{-32768}, []int{-1, 1}, []int{-32768, -32767}, memory{-32767, -32768, -32768}},
		{"stopped from afar", predictor{4096, -1 << 20}, memory{32767}, []int{-32768}, []int{32767}, memory{32767, 32767}},
		// The guesses are 40000 and -40000, beyond 16 bits.
		{"a guess is not stopped above", predictor{4096, 8192}, memory{20000}, []int{32767}, []int{-7233}, memory{-7233, 20000}},
		{"a guess is not stopped below", predictor{4096, -8192}, memory{20000}, []int{-32768}, []int{7232}, memory{7232, 20000}},
		// Four products near 2^35 are taken away again by four others.
		{"no part of the sum is stopped", predictor{4096, 1 << 20, 1 << 20, 1 << 20, 1 << 20, -1 << 20, -1 << 20, -1 << 20, -1<<20 + 4096}, memory{-32768, -32768, -32768, -32768, -32768, -32768, -32768, -32768}, []int{0}, []int{32767}, memory{32767, -32768, -32768, -32768, -32768, -32768, -32768, -32768}},
		{"nor the other way", predictor{4096, -1 << 20, -1 << 20, -1 << 20, -1 << 20, 1 << 20, 1 << 20, 1 << 20, 1<<20 - 4096}, memory{32767, 32767, 32767, 32767, 32767, 32767, 32767, 32767}, []int{-32767}, []int{0}, memory{0, 32767, 32767, 32767, 32767, 32767, 32767, 32767}},
	})
}

// P6.1, P6.2, P6.3: which number of a goes with which sample of the past.
func TestEachPlace(t *testing.T) {
	past := memory{1, 20, 300, 4000, -5, -60, -700, -8000}
	for i := 1; i <= 8; i++ {
		a := predictor{4096}
		a[i] = 4096
		x := past[i-1]
		if l, _, errno := synth.Make(a, past, []int{10}); errno != api.OK || !slices.Equal(l, []int{10 - x}) {
			t.Errorf("Make, number %d: %v, %d; wanted %d", i, l, errno, 10-x)
		}
		if l, _, errno := synth.Undo(a, past, []int{10}); errno != api.OK || !slices.Equal(l, []int{10 + x}) {
			t.Errorf("Undo, number %d: %v, %d; wanted %d", i, l, errno, 10+x)
		}
	}
}

// P6.1, P6.3: numbers that were worked out by hand.
func TestUndoByHand(t *testing.T) {
	eight := memory{1, 2, 3, 4, 5, 6, 7, 8}
	check(t, "Undo", synth.Undo, []byHand{
		{"nothing", predictor{4096, -2048}, eight, nil, nil, eight},
		{"no guess", predictor{4096}, eight, []int{-9, 32767, -32768}, []int{-9, 32767, -32768}, memory{-32768, 32767, -9, 1, 2, 3, 4, 5}},
		{"ordinary", predictor{4096, -2048, 1024}, memory{100, 50}, []int{47, -2, -18}, []int{10, 0, -5}, memory{-18, -2, 47, 100, 50}},
		{"the past is of samples", predictor{4096, 4096}, memory{100}, []int{1, 2, 3, 4, 5, 6, 7, 8, 9}, []int{101, 3, 5, 7, 9, 11, 13, 15, 17}, memory{9, 8, 7, 6, 5, 4, 3, 2}},
		{"half of a guess goes up", predictor{4096, 2048}, memory{1}, []int{0}, []int{1}, memory{0, 1}},
		{"half of a guess goes up below 0", predictor{4096, -2048}, memory{1}, []int{0}, []int{0}, memory{0, 1}},
		{"less than half", predictor{4096, 2047}, memory{1}, []int{0}, []int{0}, memory{0, 1}},
		{"more than half below 0", predictor{4096, -2049}, memory{1}, []int{0}, []int{-1}, memory{0, 1}},
		{"just not stopped above", predictor{4096, 4096}, memory{32766}, []int{1}, []int{32767}, memory{1, 32766}},
		{"stopped above", predictor{4096, 4096}, memory{32767}, []int{1, -5}, []int{32767, -4}, memory{-5, 1, 32767}},
		{"just not stopped below", predictor{4096, 4096}, memory{-32767}, []int{-1}, []int{-32768}, memory{-1, -32767}},
		{"stopped below", predictor{4096, 4096}, memory{-32768}, []int{-1, 5}, []int{-32768, 4}, memory{5, -1, -32768}},
		{"stopped from afar", predictor{4096, 1 << 20}, memory{32767}, []int{-32768}, []int{32767}, memory{-32768, 32767}},
		{"a guess is not stopped above", predictor{4096, 8192}, memory{20000}, []int{-32768}, []int{7232}, memory{-32768, 20000}},
		{"a guess is not stopped below", predictor{4096, -8192}, memory{20000}, []int{32767}, []int{-7233}, memory{32767, 20000}},
	})
}

// predictors are ordinary ones and those at the ends.
func predictors() []predictor {
	const end = 1 << 20
	l := []predictor{
		{4096},
		{4096, -7000, 3000},
		{4096, -2560, 1024, 500, -300, 200, -100, 50, -25},
		{4096, 8: -4096},
		{4096, 8: 4095},
		{4096, end, end, end, end, end, end, end, end},
		{4096, -end, -end, -end, -end, -end, -end, -end, -end},
		{4096, end, -end, end, -end, end, -end, end, -end},
		{4096, -end, end, -end, end, -end, end, -end, end},
	}
	for width := uint(2); width <= 21; width++ {
		a := predictor(mixed(api.Order+1, 31*uint32(width), width))
		a[0] = 4096
		l = append(l, a)
	}
	return l
}

// pasts are ordinary ones and those at the ends.
func pasts() []memory {
	return []memory{
		{},
		memory(mixed(api.Order, 5, 8)),
		memory(mixed(api.Order, 6, 16)),
		memory(turning(api.Order, 32767, 32767)),
		memory(turning(api.Order, -32768, -32768)),
		memory(turning(api.Order, 32767, -32768)),
	}
}

// P6.2, P6.3, against numbers without bounds.
func TestFiltersOfAll(t *testing.T) {
	lists := [][]int{
		nil, {5}, {-32768}, {32767}, turning(7, 1, -1), turning(8, 3, 4), turning(9, 100, -7),
		turning(100, 32767, 32767), turning(100, -32768, -32768), turning(100, 32767, -32768), make([]int, 81),
	}
	for width := uint(2); width <= 16; width++ {
		lists = append(lists, mixed(160, uint32(width), width))
	}
	for _, a := range predictors() {
		for _, past := range pasts() {
			for i, l := range lists {
				got, behind, errno := synth.Make(a, past, l)
				if want, after := made(a, past, l); errno != api.OK || !slices.Equal(got, want) || behind != after {
					t.Errorf("Make(%v, %v, list %d): %v, %v, %d; wanted %v, %v", a, past, i, got, behind, errno, want, after)
				}
				got, behind, errno = synth.Undo(a, past, l)
				if want, after := undone(a, past, l); errno != api.OK || !slices.Equal(got, want) || behind != after {
					t.Errorf("Undo(%v, %v, list %d): %v, %v, %d; wanted %v, %v", a, past, i, got, behind, errno, want, after)
				}
			}
		}
	}
}

// P6.2, P6.3: where nothing is stopped, Undo takes away what Make did, in a list of any length.
func TestUndoUndoes(t *testing.T) {
	exc := mixed(10000, 3, 10)
	for _, a := range predictors()[:3] {
		for _, past := range pasts()[:2] {
			l, behind, errno := synth.Make(a, past, exc)
			if errno != api.OK || slices.Contains(l, 32767) || slices.Contains(l, -32768) {
				t.Fatalf("Make(%v, %v): %d, or stopped", a, past, errno)
			}
			back, last, errno := synth.Undo(a, past, l)
			if errno != api.OK || !slices.Equal(back, exc) || last != behind {
				t.Errorf("Undo(%v, %v) is not what Make was given: %d", a, past, errno)
			}
		}
	}
}

// P6.2, P6.3: in pieces, with the past handed on, it is as in one.
func TestFiltersGoOn(t *testing.T) {
	l := mixed(400, 77, 14)
	a, start := predictors()[2], pasts()[1]
	for i, f := range []filter{synth.Make, synth.Undo} {
		whole, last, _ := f(a, start, l)
		for _, size := range []int{1, 2, 7, 8, 9, 40, 80} {
			var got []int
			past := start
			for piece := range slices.Chunk(l, size) {
				var out []int
				var errno api.Errno
				out, past, errno = f(a, past, piece)
				if errno != api.OK {
					t.Fatalf("filter %d, pieces of %d: %d", i, size, errno)
				}
				got = append(got, out...)
			}
			if !slices.Equal(got, whole) || past != last {
				t.Errorf("filter %d, pieces of %d: %v, %v; wanted %v, %v", i, size, got, past, whole, last)
			}
		}
	}
}

// P6.1: wrong numbers, wherever they stand, with a list and without one.
func TestFiltersRefuse(t *testing.T) {
	good, past := predictor{4096, 1, 2, 3, 4, 5, 6, 7, 8}, memory{1, 2, 3, 4, 5, 6, 7, 8}
	refused := func(remark string, a predictor, past memory, l []int) {
		t.Helper()
		for i, f := range []filter{synth.Make, synth.Undo} {
			if out, behind, errno := f(a, past, l); errno != api.ErrRange || len(out) != 0 || behind != (memory{}) {
				t.Errorf("filter %d, %s: %v, %v, %d", i, remark, out, behind, errno)
			}
		}
	}
	for _, first := range append(noNumbers(), 0, 1, -1, 4095, 4097, -4096, 8192, 1<<20, -1<<20, 1<<32+4096, 1<<48+4096) {
		a := good
		a[0] = first
		refused("first number", a, past, []int{1, 2})
		refused("first number, no list", a, past, nil)
	}
	for _, bad := range noNumbers() {
		for i := 1; i < len(good); i++ {
			a := good
			a[i] = bad
			refused("predictor", a, past, []int{1, 2})
			refused("predictor, no list", a, past, nil)
			refused("predictor, at rest", a, memory{}, []int{0})
		}
	}
	for _, bad := range noSamples() {
		for i := range past {
			p := past
			p[i] = bad
			refused("past", good, p, []int{1, 2})
			refused("past, no list", good, p, nil)
			refused("past, no guess", predictor{4096}, p, make([]int, 20))
		}
		for i := range 12 {
			l := mixed(12, 3, 16)
			l[i] = bad
			refused("list", good, past, l)
			refused("list, and all else", predictor{1, bad}, memory{bad}, l)
		}
	}
}

// noNumbers are numbers that no predictor has, some only just.
func noNumbers() []int {
	return []int{1<<20 + 1, -1<<20 - 1, 1 << 21, -1 << 21, 1 << 31, -1 << 31, 1 << 32, 1<<32 + 5, -1 << 32, 1 << 62, most, least}
}

// P6.1: the ends themselves are taken, at every place.
func TestFiltersTakeTheEnds(t *testing.T) {
	for _, f := range []filter{synth.Make, synth.Undo} {
		for i := range api.Order {
			for _, end := range []int{1 << 20, -1 << 20} {
				a := predictor{4096}
				a[i+1] = end
				if _, _, errno := f(a, memory{}, []int{1}); errno != api.OK {
					t.Errorf("a predictor with %d at %d: %d", end, i+1, errno)
				}
			}
			for _, end := range []int{32767, -32768} {
				var past memory
				past[i] = end
				if _, _, errno := f(predictor{4096}, past, past[:]); errno != api.OK {
					t.Errorf("%d at %d: %d", end, i, errno)
				}
			}
		}
	}
}

// What holds everywhere: lists stay as they are, with their spare room, and answers are new memory.
func TestFiltersKeepNothing(t *testing.T) {
	a, past := predictors()[2], pasts()[1]
	for i, f := range []filter{synth.Make, synth.Undo} {
		room := mixed(100, 9, 14)
		was := slices.Clone(room)
		first, _, _ := f(a, past, room[10:50])
		second, _, _ := f(a, past, room[10:50])
		want := slices.Clone(second)
		if !slices.Equal(room, was) {
			t.Errorf("filter %d changed what was handed in", i)
		}
		spoil(first)
		if !slices.Equal(second, want) || !slices.Equal(room, was) {
			t.Errorf("filter %d's answers share memory", i)
		}
	}
}

// spoil writes over a list and its spare room.
func spoil(l []int) {
	l = l[:cap(l)]
	for i := range l {
		l[i] = 1234567
	}
}
