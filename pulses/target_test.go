package pulses_test

import (
	"slices"
	"testing"

	"voxsat/api"
	"voxsat/pulses"
)

// mixed are n numbers of so many bits, always the same ones for a seed.
func mixed(n int, seed uint32, width uint) []int {
	l := make([]int, n)
	x := seed*2654435761 + 12345
	for i := range l {
		x = x*1664525 + 1013904223
		l[i] = int(int32(x)) >> (32 - width)
	}
	return l
}

// turning are n numbers, x and y by turns.
func turning(n, x, y int) []int {
	l := make([]int, n)
	for i := range l {
		l[i] = x
		x, y = y, x
	}
	return l
}

// first are forty numbers: these, and noughts.
func first(l ...int) []int { return append(l, make([]int, 40-len(l))...) }

// with are forty noughts but for these.
func with(numbers map[int]int) []int {
	l := make([]int, 40)
	for i, n := range numbers {
		l[i] = n
	}
	return l
}

// noSamples are numbers that no sample is.
func noSamples() []int {
	return []int{32768, -32769, 65535, 65536, -65536, 1 << 31, -1 << 31, 1 << 32, 1<<32 + 7, -1 << 32, 1 << 62, most, least}
}

// gathered is Target as the chapter puts it.
func gathered(target, ring []int) []int {
	out := make([]int, 40)
	for n := range out {
		for i := n; i <= 39; i++ {
			out[n] += target[i] * ring[i-n]
		}
	}
	return out
}

// P8.3: numbers that were worked out by hand.
func TestTargetByHand(t *testing.T) {
	for _, x := range []struct {
		remark       string
		target, ring []int
		want         []int
	}{
		{"noughts", first(), first(), first()},
		{"a ring of one", mixed(40, 1, 16), first(1), mixed(40, 1, 16)},
		{"the ring begins at the sample", first(1, 10, 100), first(3), first(3, 30, 300)},
		{"the ring goes on behind it", first(1, 10, 100), first(0, 2), first(20, 200)},
		{"and adds up", first(1, 10, 100), first(3, 2, 5), first(523, 230, 300)},
		{"numbers below 0", first(-1, 10, -100), first(3, -2, 5), first(-523, 230, -300)},
		{"the last sample of the target", with(map[int]int{39: 7}), first(1, 2, 3), with(map[int]int{37: 21, 38: 14, 39: 7})},
		{"the last number of the ring", with(map[int]int{39: 7, 38: 5}), with(map[int]int{39: 11}), first(77)},
		{"the greatest", turning(40, -32768, -32768), turning(40, -32768, -32768), falling(1 << 30)},
		{"the least", turning(40, 32767, 32767), turning(40, -32768, -32768), falling(-32767 * 32768)},
	} {
		if l, errno := pulses.Target(x.target, x.ring); errno != api.OK || !slices.Equal(l, x.want) {
			t.Errorf("Target, %s: %v, %d; wanted %v", x.remark, l, errno, x.want)
		}
	}
}

// falling are 40 times x, 39 times x and so on.
func falling(x int) []int {
	l := make([]int, 40)
	for i := range l {
		l[i] = (40 - i) * x
	}
	return l
}

// P8.3, at numbers of every width.
func TestTargetOfAll(t *testing.T) {
	for width := uint(1); width <= 16; width++ {
		for seed := uint32(1); seed <= 20; seed++ {
			target, ring := mixed(40, seed, width), mixed(40, 700+seed, 17-width)
			if l, errno := pulses.Target(target, ring); errno != api.OK || !slices.Equal(l, gathered(target, ring)) {
				t.Errorf("Target(%v, %v): %v, %d; wanted %v", target, ring, l, errno, gathered(target, ring))
			}
		}
	}
}

// P8.3: lists of wrong lengths, ahead of wrong numbers; wrong numbers in either list, at every place.
func TestTargetRefuses(t *testing.T) {
	refused := func(remark string, target, ring []int, want api.Errno) {
		t.Helper()
		if l, errno := pulses.Target(target, ring); len(l) != 0 || errno != want {
			t.Errorf("Target, %s: %v, %d; wanted %d", remark, l, errno, want)
		}
		if l, errno := pulses.Target(ring, target); len(l) != 0 || errno != want {
			t.Errorf("Target, %s, turned round: %v, %d; wanted %d", remark, l, errno, want)
		}
	}
	good := mixed(40, 3, 16)
	refused("nothing", nil, nil, api.ErrSize)
	for _, n := range []int{0, 1, 39, 41, 80, 1000} {
		refused("one of a wrong length", make([]int, n), good, api.ErrSize)
		refused("both of a wrong length", make([]int, n), make([]int, n), api.ErrSize)
		for _, bad := range noSamples() {
			refused("wrong length, wrong numbers beside it", make([]int, n), turning(40, bad, bad), api.ErrSize)
			refused("wrong length of wrong numbers", turning(n, bad, bad), good, api.ErrSize)
		}
	}
	for _, bad := range noSamples() {
		for i := range good {
			wrong := slices.Clone(good)
			wrong[i] = bad
			refused("wrong number", wrong, good, api.ErrRange)
			refused("wrong number beside noughts", wrong, make([]int, 40), api.ErrRange)
		}
	}
}

// What holds everywhere: lists stay as they are, with their spare room, and answers are new memory.
func TestTargetKeepsNothing(t *testing.T) {
	target, ring := mixed(100, 9, 14), mixed(100, 10, 14)
	targets, rings := slices.Clone(target), slices.Clone(ring)
	one, _ := pulses.Target(target[10:50], ring[20:60])
	two, _ := pulses.Target(target[10:50], ring[20:60])
	spoil(one)
	if !slices.Equal(target, targets) || !slices.Equal(ring, rings) || !slices.Equal(two, gathered(targets[10:50], rings[20:60])) {
		t.Error("Target changed what was handed in, or its answers share memory")
	}
}

// ended is x, stopped at 16 bits.
func ended(x int) int {
	if x > 32767 {
		return 32767
	}
	if x < -32768 {
		return -32768
	}
	return x
}

// strength is Energy as the chapter puts it.
func strength(ring []int, a, b int) int {
	sum := 0
	for i := range 40 {
		if i >= a && i >= b {
			sum += ended(ring[i-a]) * ended(ring[i-b])
		}
	}
	return sum
}

// P8.4: numbers that were worked out by hand.
func TestEnergyByHand(t *testing.T) {
	short := first(10, 5, -2)
	for _, x := range []struct {
		remark string
		ring   []int
		a, b   int
		want   int
	}{
		{"noughts", first(), 0, 0, 0},
		{"with itself", short, 0, 0, 129},
		{"with itself, where it is whole yet", short, 37, 37, 129},
		{"without its last number", short, 38, 38, 125},
		{"its first number alone", short, 39, 39, 100},
		{"beside it", short, 0, 1, 40},
		{"beside it, at the end", short, 38, 39, 50},
		{"two farther", short, 5, 7, -20},
		{"two farther, at the end", short, 37, 39, -20},
		{"three farther", short, 5, 8, 0},
		{"the last number", with(map[int]int{0: 3, 39: 7}), 0, 39, 21},
		{"the last number with itself", with(map[int]int{0: 3, 39: 7}), 0, 0, 58},
		{"the greatest", turning(40, -32768, -32768), 0, 0, 40 << 30},
		{"the least", turning(40, -32768, 32767), 0, 1, -39 * 32768 * 32767},
		{"stopped above", first(32768, 1), 0, 0, 32767*32767 + 1},
		{"stopped below", first(-32769, 1), 0, 1, -32768},
		{"just not stopped", first(-32768, 32767), 0, 1, -32768 * 32767},
		{"the greatest and the least number", first(most, least), 0, 1, -32768 * 32767},
		{"the least number with itself", turning(40, least, least), 0, 0, 40 << 30},
	} {
		for _, o := range [][2]int{{x.a, x.b}, {x.b, x.a}} {
			if n, errno := pulses.Energy(x.ring, o[0], o[1]); n != x.want || errno != api.OK {
				t.Errorf("Energy, %s (%d, %d): %d, %d; wanted %d", x.remark, o[0], o[1], n, errno, x.want)
			}
		}
	}
}

// P8.4, at every pair of samples.
func TestEnergyOfAll(t *testing.T) {
	for _, width := range []uint{2, 9, 16, 17, 20, 32} {
		ring := mixed(40, 80+uint32(width), width)
		for a := range 40 {
			for b := range 40 {
				if n, errno := pulses.Energy(ring, a, b); n != strength(ring, a, b) || errno != api.OK {
					t.Errorf("Energy(%v, %d, %d): %d, %d; wanted %d", ring, a, b, n, errno, strength(ring, a, b))
				}
			}
		}
	}
}

// P8.4: wrong lengths, ahead of wrong samples; wrong samples in either place.
func TestEnergyRefuses(t *testing.T) {
	refused := func(ring []int, a, b int, want api.Errno) {
		t.Helper()
		if n, errno := pulses.Energy(ring, a, b); n != 0 || errno != want {
			t.Errorf("Energy(%d numbers, %d, %d): %d, %d; wanted %d", len(ring), a, b, n, errno, want)
		}
	}
	wrong := []int{-1, 40, 41, -39, -40, 80, 1 << 31, -1 << 31, 1 << 32, 1<<32 + 3, -1 << 32, 1 << 62, most, least}
	for _, n := range []int{0, 1, 39, 41, 80, 1000} {
		refused(turning(n, 1, 1), 0, 0, api.ErrSize)
		refused(turning(n, 1, 1), 39, 39, api.ErrSize)
		for _, bad := range wrong {
			refused(turning(n, 1, 1), bad, 0, api.ErrSize)
			refused(turning(n, 1, 1), 0, bad, api.ErrSize)
		}
	}
	refused(nil, 0, 0, api.ErrSize)
	for _, bad := range wrong {
		for _, other := range append(wrong, 0, 5, 39) {
			refused(turning(40, 1, 1), bad, other, api.ErrRange)
			refused(turning(40, 1, 1), other, bad, api.ErrRange)
		}
	}
}

// What holds everywhere: the ring stays as it is, with its spare room, also where numbers are stopped.
func TestEnergyKeepsNothing(t *testing.T) {
	ring := mixed(100, 11, 20)
	was := slices.Clone(ring)
	n, _ := pulses.Energy(ring[20:60], 3, 8)
	again, _ := pulses.Energy(ring[20:60], 3, 8)
	if !slices.Equal(ring, was) || n != again || n != strength(was[20:60], 3, 8) {
		t.Error("Energy changed what was handed in")
	}
}
