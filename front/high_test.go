package front_test

import (
	"math"
	"math/big"
	"slices"
	"testing"

	"voxsat/api"
	"voxsat/front"
)

const most, least = math.MaxInt64, math.MinInt64

// noSamples are numbers that are beyond a sample's ends, some only just.
func noSamples() []int {
	return []int{32768, -32769, 65535, 65536, -65536, 1 << 31, -1 << 31, 1 << 32, 1<<32 + 5, 1 << 48, most, least}
}

// mixed are n samples of at most so many bits, the same ones always.
func mixed(n int, seed uint32, width uint) []int {
	l := make([]int, n)
	x := seed
	for i := range l {
		x = x*1664525 + 1013904223
		l[i] = int(int32(x)) >> (32 - width)
	}
	return l
}

// steady are n samples of one number.
func steady(n, x int) []int { return turning(n, x, x, n) }

// turning are n samples of two numbers, which take turns so often.
func turning(n, x, y, often int) []int {
	l := make([]int, n)
	for i := range l {
		l[i] = x
		if i/often%2 == 1 {
			l[i] = y
		}
	}
	return l
}

func wide(x int) *big.Int { return big.NewInt(int64(x)) }

func times(a, b int) *big.Int { return new(big.Int).Mul(wide(a), wide(b)) }

// down is x / 2^n, rounded down.
func down(x *big.Int, n uint) *big.Int { return new(big.Int).Rsh(x, n) }

// nearest is x / 2^n, rounded.
func nearest(x *big.Int, n uint) *big.Int {
	half := new(big.Int).Lsh(big.NewInt(1), n-1)
	return down(half.Add(half, x), n)
}

// pass is one answer of the high-pass, by numbers without bounds.
func pass(x0, x1, x2, y1, y2 int) int {
	sum := new(big.Int)
	for _, p := range [][2]int{{3798, x0}, {-7596, x1}, {3798, x2}, {7807, y1}, {-3733, y2}} {
		sum.Add(sum, times(p[0], p[1]))
	}
	y := int(nearest(sum, 12).Int64())
	if y > 32767 {
		return 32767
	}
	if y < -32768 {
		return -32768
	}
	return y
}

// filtered is all answers: lists that begin with what was remembered, the older one first.
func filtered(h api.HighPass, l []int) ([]int, api.HighPass) {
	x := append([]int{h.X[1], h.X[0]}, l...)
	y := []int{h.Y[1], h.Y[0]}
	for i := 2; i < len(x); i++ {
		y = append(y, pass(x[i], x[i-1], x[i-2], y[i-1], y[i-2]))
	}
	last := len(x) - 1
	return y[2:], api.HighPass{X: [2]int{x[last], x[last-1]}, Y: [2]int{y[last], y[last-1]}}
}

// memories are what a high-pass may remember: every number a different one, and the ends.
func memories() []api.HighPass {
	return []api.HighPass{
		{},
		{X: [2]int{100, -2000}, Y: [2]int{3000, -700}},
		{X: [2]int{1, 0}},
		{X: [2]int{0, 1}},
		{Y: [2]int{1, 0}},
		{Y: [2]int{0, 1}},
		{X: [2]int{32767, -32768}, Y: [2]int{-32768, 32767}},
		{X: [2]int{-32768, 32767}, Y: [2]int{32767, -32768}},
		{X: [2]int{-32768, -32768}, Y: [2]int{-32768, -32768}},
	}
}

// P3.1: numbers that were worked out by hand.
func TestHighByHand(t *testing.T) {
	for _, x := range []struct {
		remark string
		h      api.HighPass
		l      []int
		want   []int
		behind api.HighPass
	}{
		{"one", api.HighPass{}, []int{4096, 0, 0}, []int{3798, -357, -344}, api.HighPass{Y: [2]int{-344, -357}}},
		{"nothing", api.HighPass{X: [2]int{1, 2}, Y: [2]int{3, 4}}, nil, nil, api.HighPass{X: [2]int{1, 2}, Y: [2]int{3, 4}}},
		{"one sample", api.HighPass{X: [2]int{1, 2}, Y: [2]int{3, 4}}, []int{9}, []int{10}, api.HighPass{X: [2]int{9, 1}, Y: [2]int{10, 3}}},
		{"X[0]", api.HighPass{X: [2]int{4096, 0}}, []int{0}, []int{-7596}, api.HighPass{X: [2]int{0, 4096}, Y: [2]int{-7596, 0}}},
		{"X[1]", api.HighPass{X: [2]int{0, 4096}}, []int{0}, []int{3798}, api.HighPass{Y: [2]int{3798, 0}}},
		{"Y[0]", api.HighPass{Y: [2]int{4096, 0}}, []int{0}, []int{7807}, api.HighPass{Y: [2]int{7807, 4096}}},
		{"Y[1]", api.HighPass{Y: [2]int{0, 4096}}, []int{0}, []int{-3733}, api.HighPass{Y: [2]int{-3733, 0}}},
		{"half goes up", api.HighPass{}, []int{1024}, []int{950}, api.HighPass{X: [2]int{1024, 0}, Y: [2]int{950, 0}}},
		{"half goes up below 0", api.HighPass{}, []int{-1024}, []int{-949}, api.HighPass{X: [2]int{-1024, 0}, Y: [2]int{-949, 0}}},
		{"stopped above", api.HighPass{Y: [2]int{32767, 0}}, []int{0, 0}, []int{32767, 32591}, api.HighPass{Y: [2]int{32591, 32767}}},
		{"stopped below", api.HighPass{Y: [2]int{-32768, 0}}, []int{0, 0}, []int{-32768, -32592}, api.HighPass{Y: [2]int{-32592, -32768}}},
	} {
		got, behind, errno := front.High(x.h, x.l)
		if errno != api.OK || !slices.Equal(got, x.want) || behind != x.behind {
			t.Errorf("High, %s: %v, %v, %d; wanted %v, %v", x.remark, got, behind, errno, x.want, x.behind)
		}
	}
}

// P3.1, against numbers without bounds.
func TestHighOfAll(t *testing.T) {
	lists := [][]int{
		nil, {5}, {-32768}, {32767, -32768},
		steady(200, 32767), steady(200, -32768), steady(80, 1), steady(80, -1),
		turning(200, 32767, -32768, 1), turning(200, -32768, 32767, 2), turning(400, 32767, -32768, 20), turning(80, 3, -4, 3),
	}
	for width := uint(2); width <= 16; width++ {
		lists = append(lists, mixed(160, uint32(width), width))
	}
	for _, h := range memories() {
		for i, l := range lists {
			got, behind, errno := front.High(h, l)
			want, after := filtered(h, l)
			if errno != api.OK || !slices.Equal(got, want) || behind != after {
				t.Errorf("High(%v, list %d): %v, %v, %d; wanted %v, %v", h, i, got, behind, errno, want, after)
			}
		}
	}
}

// P3.1: in pieces, with what is remembered handed on, it is as in one.
func TestHighGoesOn(t *testing.T) {
	l := mixed(400, 77, 16)
	whole, last, _ := front.High(memories()[1], l)
	for _, size := range []int{1, 2, 3, 80} {
		var got []int
		h := memories()[1]
		for piece := range slices.Chunk(l, size) {
			var out []int
			var errno api.Errno
			out, h, errno = front.High(h, piece)
			if errno != api.OK {
				t.Fatalf("High, pieces of %d: %d", size, errno)
			}
			got = append(got, out...)
		}
		if !slices.Equal(got, whole) || h != last {
			t.Errorf("High, pieces of %d: %v, %v; wanted %v, %v", size, got, h, whole, last)
		}
	}
}

// P3.1: wrong numbers, wherever they stand; the ends of a sample are none.
func TestHighRefuses(t *testing.T) {
	refused := func(remark string, h api.HighPass, l []int) {
		t.Helper()
		if out, behind, errno := front.High(h, l); errno != api.ErrRange || len(out) != 0 || behind != (api.HighPass{}) {
			t.Errorf("High, %s: %v, %v, %d", remark, out, behind, errno)
		}
	}
	for _, bad := range noSamples() {
		for i := range 2 {
			h := memories()[1]
			h.X[i] = bad
			refused("X", h, []int{1, 2})
			refused("X, no samples", h, nil)
			h = memories()[1]
			h.Y[i] = bad
			refused("Y", h, []int{1, 2})
			refused("Y, no samples", h, nil)
		}
		for i := range 5 {
			l := mixed(5, 3, 16)
			l[i] = bad
			refused("list", memories()[1], l)
			refused("list and memory", api.HighPass{Y: [2]int{bad, 0}}, l)
		}
	}
	for _, end := range []int{32767, -32768} {
		h := api.HighPass{X: [2]int{end, end}, Y: [2]int{end, end}}
		if _, _, errno := front.High(h, []int{end}); errno != api.OK {
			t.Errorf("High of %d: %d", end, errno)
		}
	}
}

// What holds everywhere: lists stay as they are, with their spare room, and answers are new memory.
func TestHighKeepsNothing(t *testing.T) {
	room := mixed(100, 9, 16)
	was := slices.Clone(room)
	first, _, _ := front.High(memories()[1], room[10:50])
	second, _, _ := front.High(memories()[1], room[10:50])
	if !slices.Equal(room, was) {
		t.Error("High changed what was handed in")
	}
	for i := range first {
		first[i] = 1234567
	}
	rest := first[len(first):cap(first)]
	for i := range rest {
		rest[i] = 1234567
	}
	if want, _ := filtered(memories()[1], was[10:50]); !slices.Equal(second, want) || !slices.Equal(room, was) {
		t.Error("High's answers share memory")
	}
}
