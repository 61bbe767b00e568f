package synth_test

import (
	"math/big"
	"slices"
	"testing"

	"voxsat/api"
	"voxsat/synth"
)

// P6.4: numbers that were worked out by hand.
func TestRingByHand(t *testing.T) {
	for _, x := range []struct {
		remark string
		a      predictor
		n      int
		want   []int
	}{
		{"nothing", predictor{4096, -2048}, 0, nil},
		{"one", predictor{4096, -2048}, 1, []int{4096}},
		{"halves", predictor{4096, -2048}, 15, []int{4096, 2048, 1024, 512, 256, 128, 64, 32, 16, 8, 4, 2, 1, 0, 0}},
		{"halves by turns", predictor{4096, 2048}, 14, []int{4096, -2048, 1024, -512, 256, -128, 64, -32, 16, -8, 4, -2, 1, -1}},
		{"no guess", predictor{4096}, 3, []int{4096, 0, 0}},
		{"the last number", predictor{4096, 8: -4096}, 18, []int{4096, 0, 0, 0, 0, 0, 0, 0, 4096, 0, 0, 0, 0, 0, 0, 0, 4096, 0}},
		{"stopped above", predictor{4096, -8192}, 5, []int{4096, 8192, 16384, 32767, 32767}},
		{"stopped below", predictor{4096, 1 << 20}, 4, []int{4096, -32768, 32767, -32768}},
	} {
		if l, errno := synth.Ring(x.a, x.n); errno != api.OK || !slices.Equal(l, x.want) {
			t.Errorf("Ring, %s: %v, %d; wanted %v", x.remark, l, errno, x.want)
		}
	}
}

// P6.4, at every n, against numbers without bounds.
func TestRingOfAll(t *testing.T) {
	for _, a := range predictors() {
		for n := range api.Frame + 1 {
			exc := make([]int, n)
			if n > 0 {
				exc[0] = 4096
			}
			want, _ := made(a, memory{}, exc)
			if l, errno := synth.Ring(a, n); errno != api.OK || !slices.Equal(l, want) {
				t.Errorf("Ring(%v, %d): %v, %d; wanted %v", a, n, l, errno, want)
			}
		}
	}
}

// P6.4: wrong n, ahead of a wrong predictor, and a wrong predictor at every n.
func TestRingRefuses(t *testing.T) {
	refused := func(a predictor, n int, want api.Errno) {
		t.Helper()
		if l, errno := synth.Ring(a, n); errno != want || len(l) != 0 {
			t.Errorf("Ring(%v, %d): %v, %d; wanted %d", a, n, l, errno, want)
		}
	}
	for _, n := range []int{-1, 81, -80, 82, 160, 1 << 31, -1 << 31, 1 << 32, 1<<32 + 5, -1 << 32, 1 << 62, most, least} {
		refused(predictor{4096}, n, api.ErrSize)
		refused(predictor{4095}, n, api.ErrSize)
		refused(predictor{4096, 1<<20 + 1}, n, api.ErrSize)
	}
	for _, n := range []int{0, 1, 2, 79, 80} {
		for _, bad := range noNumbers() {
			for i := range len(predictor{}) {
				a := predictor{4096}
				a[i] = bad
				refused(a, n, api.ErrRange)
			}
		}
		refused(predictor{}, n, api.ErrRange)
		refused(predictor{4095}, n, api.ErrRange)
		refused(predictor{4097}, n, api.ErrRange)
	}
}

// folded is Fold by numbers without bounds.
func folded(ring, l []int) []int {
	var out []int
	for n := range l {
		sum := new(big.Int)
		for i := 0; i <= n; i++ {
			sum.Add(sum, times(ring[i], l[n-i]))
		}
		out = append(out, ended(nearest(sum)))
	}
	return out
}

// P6.5: numbers that were worked out by hand.
func TestFoldByHand(t *testing.T) {
	for _, x := range []struct {
		remark  string
		ring, l []int
		want    []int
	}{
		{"nothing", nil, nil, nil},
		{"nothing, and an empty list", nil, []int{}, nil},
		{"one", []int{4096}, []int{-7}, []int{-7}},
		{"halves", []int{4096, 2048, 1024, 512, 256}, []int{100, 0, 10, 0, 0}, []int{100, 50, 35, 18, 9}},
		{"what came ahead of it", []int{4096, 8192, 12288}, []int{1, 10, 100}, []int{1, 12, 123}},
		{"the other way round", []int{1, 10, 100}, []int{4096, 8192, 12288}, []int{1, 12, 123}},
		{"half goes up", []int{2048}, []int{1}, []int{1}},
		{"half goes up below 0", []int{2048}, []int{-1}, []int{0}},
		{"less than half", []int{2047}, []int{1}, []int{0}},
		{"more than half below 0", []int{2049}, []int{-1}, []int{-1}},
		{"the sum is rounded, not its parts", []int{1024, 1024}, []int{1, 1}, []int{0, 1}},
		{"just not stopped above", []int{4096, 4096}, []int{32766, 1}, []int{32766, 32767}},
		{"stopped above", []int{4096, 4096}, []int{32767, 1}, []int{32767, 32767}},
		{"just not stopped below", []int{4096, 4096}, []int{-32767, -1}, []int{-32767, -32768}},
		{"stopped below", []int{4096, 4096}, []int{-32768, -1}, []int{-32768, -32768}},
		{"the greatest", []int{-32768}, []int{-32768}, []int{32767}},
		{"the least", []int{-32768}, []int{32767}, []int{-32768}},
		// 2^30 + 2^30 + 2^30 less 32767 * 32768 three times is 3 * 32768, 24 of 4096.
		{"no part of the sum is stopped", []int{-32768, -32768, -32768, -32768, -32768, -32768}, []int{32767, 32767, 32767, -32768, -32768, -32768}, []int{-32768, -32768, -32768, -32768, -32768, 24}},
		{"nor is a part remembered", []int{4096, 4096, 4096}, []int{32767, 32767, -32768}, []int{32767, 32767, 32766}},
	} {
		if l, errno := synth.Fold(x.ring, x.l); errno != api.OK || !slices.Equal(l, x.want) {
			t.Errorf("Fold, %s: %v, %d; wanted %v", x.remark, l, errno, x.want)
		}
	}
}

// P6.5, at every length, against numbers without bounds.
func TestFoldOfAll(t *testing.T) {
	same := func(ring, l []int) {
		t.Helper()
		if got, errno := synth.Fold(ring, l); errno != api.OK || !slices.Equal(got, folded(ring, l)) {
			t.Errorf("Fold(%v, %v): %v, %d; wanted %v", ring, l, got, errno, folded(ring, l))
		}
	}
	for n := range api.Frame + 1 {
		same(mixed(n, uint32(n), 13), mixed(n, 1000+uint32(n), 14))
		same(mixed(n, uint32(n), 16), mixed(n, 1000+uint32(n), 16))
		same(turning(n, -32768, -32768), turning(n, -32768, -32768))
		same(turning(n, -32768, -32768), turning(n, 32767, 32767))
		same(turning(n, 32767, -32768), turning(n, 32767, -32768))
		same(turning(n, -32768, 32767), turning(n, 32767, -32768))
	}
	for _, a := range predictors() {
		ring, _ := synth.Ring(a, api.Frame)
		same(ring, mixed(api.Frame, 8, 12))
	}
}

// P6.4, P6.5: where nothing is rounded or stopped, Fold of a ring is what Make makes at rest.
func TestFoldIsMake(t *testing.T) {
	for _, a := range []predictor{{4096}, {4096, -4096}, {4096, 4096, 4096}, {4096, 3: -4096}, {4096, 8: 4096}} {
		ring, _ := synth.Ring(a, api.Half)
		l := mixed(api.Half, 12, 6)
		want, _, _ := synth.Make(a, memory{}, l)
		if got, errno := synth.Fold(ring, l); errno != api.OK || !slices.Equal(got, want) {
			t.Errorf("Fold by the ring of %v: %v, %d; wanted %v", a, got, errno, want)
		}
	}
}

// P6.5: lists of wrong lengths, ahead of wrong numbers; wrong numbers in either list, at every place.
func TestFoldRefuses(t *testing.T) {
	refused := func(remark string, ring, l []int, want api.Errno) {
		t.Helper()
		if out, errno := synth.Fold(ring, l); errno != want || len(out) != 0 {
			t.Errorf("Fold, %s: %v, %d; wanted %d", remark, out, errno, want)
		}
		if out, errno := synth.Fold(l, ring); errno != want || len(out) != 0 {
			t.Errorf("Fold, %s, turned round: %v, %d; wanted %d", remark, out, errno, want)
		}
	}
	refused("one and nothing", []int{1}, nil, api.ErrSize)
	refused("79 and 80", make([]int, 79), make([]int, 80), api.ErrSize)
	refused("80 and 81", make([]int, 80), make([]int, 81), api.ErrSize)
	refused("81 and 81", make([]int, 81), make([]int, 81), api.ErrSize)
	refused("1000 and 1000", make([]int, 1000), make([]int, 1000), api.ErrSize)
	for _, bad := range noSamples() {
		refused("other lengths, wrong number", []int{bad}, []int{1, 2}, api.ErrSize)
		refused("other lengths, wrong number of the longer one", []int{bad, bad}, []int{1}, api.ErrSize)
		refused("too long, wrong numbers", turning(81, bad, bad), turning(81, bad, bad), api.ErrSize)
		refused("both wrong", []int{bad}, []int{bad}, api.ErrRange)
		for _, n := range []int{1, 2, 5, 80} {
			for i := range n {
				l := mixed(n, 3, 16)
				l[i] = bad
				refused("wrong number", l, make([]int, n), api.ErrRange)
			}
		}
	}
}

// What holds everywhere: lists stay as they are, with their spare room, and answers are new memory.
func TestFoldKeepsNothing(t *testing.T) {
	ring, l := mixed(100, 9, 14), mixed(100, 10, 14)
	rings, was := slices.Clone(ring), slices.Clone(l)
	first, _ := synth.Fold(ring[10:50], l[20:60])
	second, _ := synth.Fold(ring[10:50], l[20:60])
	spoil(first)
	if !slices.Equal(ring, rings) || !slices.Equal(l, was) || !slices.Equal(second, folded(rings[10:50], was[20:60])) {
		t.Error("Fold changed what was handed in, or its answers share memory")
	}
	one, _ := synth.Ring(predictors()[1], 40)
	two, _ := synth.Ring(predictors()[1], 40)
	spoil(one)
	if want, _ := made(predictors()[1], memory{}, append([]int{4096}, make([]int, 39)...)); !slices.Equal(two, want) {
		t.Error("Ring's answers share memory")
	}
}
