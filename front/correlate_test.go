package front_test

import (
	"math/big"
	"slices"
	"sort"
	"testing"

	"voxsat/api"
	"voxsat/front"
)

type sums = [api.Order + 1]int

// odds are the window's numbers k, written as they are told: up, and down again.
func odds() []int {
	var l []int
	for k := 1; k <= 119; k += 2 {
		l = append(l, k)
	}
	for k := 119; k >= 1; k -= 2 {
		l = append(l, k)
	}
	return l
}

var windowOdds = odds()

// P3.2
func TestWeight(t *testing.T) {
	for i, k := range windowOdds {
		if got, want := front.Weight(i), 32767*k/119; got != want {
			t.Errorf("Weight(%d): %d; wanted %d", i, got, want)
		}
	}
	for i, want := range map[int]int{0: 275, 1: 826, 2: 1376, 30: 16796, 58: 32216, 59: 32767, 60: 32767, 61: 32216, 118: 826, 119: 275} {
		if got := front.Weight(i); got != want {
			t.Errorf("Weight(%d): %d; wanted %d", i, got, want)
		}
	}
	for _, i := range []int{-1, -2, -60, -119, -120, 120, 121, 179, 240, 1 << 31, -1 << 31, 1 << 32, 1<<32 + 5, 1 << 62, -1 << 62, most, most - 1, least, least + 1} {
		if got := front.Weight(i); got != 0 {
			t.Errorf("Weight(%d): %d", i, got)
		}
	}
}

// behindWindow is a sample behind the window, by numbers without bounds.
func behindWindow(x, i int) *big.Int { return nearest(times(x, 32767*windowOdds[i]/119), 15) }

// rawSums are the sums as they are ahead of being moved.
func rawSums(l []int) [api.Order + 1]*big.Int {
	var w []*big.Int
	for i, x := range l {
		w = append(w, behindWindow(x, i))
	}
	var r [api.Order + 1]*big.Int
	for k := range r {
		r[k] = new(big.Int)
		for i := k; i < len(w); i++ {
			r[k].Add(r[k], new(big.Int).Mul(w[i], w[i-k]))
		}
	}
	r[0].Add(r[0], big.NewInt(1))
	return r
}

// movedBy is x / 2^n, rounded down, or x * 2^-n.
func movedBy(x *big.Int, n int) *big.Int {
	if n < 0 {
		return new(big.Int).Lsh(x, uint(-n))
	}
	return down(x, uint(n))
}

// correlated is Correlate by numbers without bounds: the one n that fits is looked for.
func correlated(l []int) (sums, int) {
	raw := rawSums(l)
	n := -40
	for movedBy(raw[0], n).Cmp(big.NewInt(1<<31-1)) > 0 {
		n++
	}
	var r sums
	for k := range r {
		sum := movedBy(raw[k], n)
		less := down(new(big.Int).Mul(sum, big.NewInt(int64(k*k))), 13)
		r[k] = int(sum.Sub(sum, less).Int64())
	}
	return r, n
}

func sameSums(t *testing.T, remark string, l []int) {
	t.Helper()
	got, n, errno := front.Correlate(l)
	want, places := correlated(l)
	if errno != api.OK || got != want || n != places {
		t.Errorf("Correlate, %s: %v, %d, %d; wanted %v, %d", remark, got, n, errno, want, places)
	}
	if got[0] < 1<<30 || got[0] >= 1<<31 {
		t.Errorf("Correlate, %s: sum 0 is %d", remark, got[0])
	}
}

// with is noughts but for some samples.
func with(some map[int]int) []int {
	l := make([]int, api.Window)
	for i, x := range some {
		l[i] = x
	}
	return l
}

// P3.3: numbers that were worked out by hand.
func TestCorrelateByHand(t *testing.T) {
	const half, full = 1 << 29, 1 << 30
	for _, x := range []struct {
		remark string
		l      []int
		want   sums
		n      int
	}{
		{"noughts", with(nil), sums{full}, -30},
		{"a one", with(map[int]int{60: 1}), sums{full}, -29},
		{"a one at the end is nothing", with(map[int]int{0: 1}), sums{full}, -30},
		{"half goes up", with(map[int]int{0: 60}), sums{full}, -29},
		{"half does not go down", with(map[int]int{0: -59}), sums{full}, -30},
		{"the greatest", with(map[int]int{59: 32767}), sums{2 * (32766*32766 + 1)}, -1},
		{"the least", with(map[int]int{60: -32768}), sums{2 * (32767*32767 + 1)}, -1},
		// Sum 0 is 3, sum 1 is 1; 2^29 less 2^29 / 2^13.
		{"neighbours", with(map[int]int{59: 1, 60: 1}), sums{3 * half, half - 1<<16}, -29},
		// -2^29 less -64 * 2^29 / 2^13.
		{"eight apart", with(map[int]int{56: 1, 64: -1}), sums{3 * half, 0, 0, 0, 0, 0, 0, 0, -half + 1<<22}, -29},
		{"nine apart", with(map[int]int{55: 1, 64: 1}), sums{3 * half}, -29},
		// 2 * 32766 * 32766 + 1 is 31 bits long, and stays; the product of neighbours is 32766 * 32766.
		{"not moved", with(map[int]int{59: 32767, 60: 32767}), sums{2147221513, 1073610756 - 131056}, 0},
		// Behind the window: 32215, -32767, 32766. Sum 1 is -2129232427, its half -1064616214, rounded down, and that by 2^13 is -129959.
		{"down below 0", with(map[int]int{58: 32767, 59: -32768, 60: 32767}), sums{1592546635, -1064616214 + 129959, 527778345 - 257704}, 1},
	} {
		got, n, errno := front.Correlate(x.l)
		if errno != api.OK || got != x.want || n != x.n {
			t.Errorf("Correlate, %s: %v, %d, %d; wanted %v, %d", x.remark, got, n, errno, x.want, x.n)
		}
	}
}

// P3.3, against numbers without bounds.
func TestCorrelateOfAll(t *testing.T) {
	for _, often := range []int{1, 2, 3, 5, 8, 9, 20, 60, 120} {
		for _, x := range []int{1, 2, 3, 181, 4096, 20000, 32767} {
			sameSums(t, "turning", turning(api.Window, x, -x-1, often))
			sameSums(t, "turning the other way", turning(api.Window, -x-1, x, often))
		}
	}
	for width := uint(1); width <= 16; width++ {
		for seed := range uint32(20) {
			sameSums(t, "mixed", mixed(api.Window, 1000*seed+uint32(width), width))
		}
	}
	// A lone pair: which sample meets which, at the edges of the window, too.
	for i := range api.Window {
		for k := 0; k <= 9 && i+k < api.Window; k++ {
			sameSums(t, "a pair", with(map[int]int{i: 30001, i + k: -29003}))
		}
	}
}

// squaresOf is samples whose squares behind the window have this sum.
func squaresOf(t *testing.T, rest int) []int {
	t.Helper()
	l := make([]int, api.Window)
	for j := 0; rest > 0; j++ {
		// From the middle outwards, where the window lets the greatest numbers be.
		i := 60 + j/2
		if j%2 == 1 {
			i = 59 - j/2
		}
		if i < 0 || i >= api.Window {
			t.Fatalf("%d are left", rest)
		}
		x := sort.Search(32767, func(x int) bool { return square(x+1, i) > rest })
		l[i] = x
		rest -= square(x, i)
	}
	return l
}

func square(x, i int) int {
	w := int(behindWindow(x, i).Int64())
	return w * w
}

// P3.3: the number of places changes at powers of two, neither ahead of them nor behind.
func TestCorrelateAtPowers(t *testing.T) {
	for m := 1; m <= 35; m++ {
		for d, want := range map[int]int{-1: m - 31, 0: m - 30, 1: m - 30} {
			l := squaresOf(t, 1<<m+d-1)
			got, n, errno := front.Correlate(l)
			if errno != api.OK || n != want || got[0] != int(movedBy(wide(1<<m+d), want).Int64()) {
				t.Errorf("Correlate, sum 0 being 2^%d and %d: %d, %d, %d; wanted %d places", m, d, got[0], n, errno, want)
			}
			sameSums(t, "at a power", l)
		}
	}
}

// P3.3: wrong lists; where both errors apply it is ErrSize.
func TestCorrelateRefuses(t *testing.T) {
	refused := func(remark string, l []int, want api.Errno) {
		t.Helper()
		if r, n, errno := front.Correlate(l); errno != want || r != (sums{}) || n != 0 {
			t.Errorf("Correlate, %s: %v, %d, %d", remark, r, n, errno)
		}
	}
	refused("nil", nil, api.ErrSize)
	refused("nothing", []int{}, api.ErrSize)
	for _, size := range []int{1, 80, 119, 121, 240, 5000} {
		refused("not 120", mixed(size, 1, 16), api.ErrSize)
		refused("not 120, and no samples", steady(size, 32768), api.ErrSize)
	}
	refused("spare room", mixed(300, 1, 16)[:119], api.ErrSize)
	for _, bad := range noSamples() {
		for _, i := range []int{0, 1, 59, 60, 118, 119} {
			l := mixed(api.Window, 1, 16)
			l[i] = bad
			refused("no sample", l, api.ErrRange)
		}
	}
	for _, end := range []int{32767, -32768} {
		sameSums(t, "the ends of a sample", steady(api.Window, end))
	}
}

// What holds everywhere: the list stays as it is, with its spare room.
func TestCorrelateKeepsNothing(t *testing.T) {
	room := mixed(300, 9, 16)
	was := slices.Clone(room)
	l := room[50 : 50+api.Window]
	first, places, _ := front.Correlate(l)
	if !slices.Equal(room, was) {
		t.Error("Correlate changed what was handed in")
	}
	clear(room)
	if again, n, _ := front.Correlate(was[50 : 50+api.Window]); again != first || n != places {
		t.Errorf("Correlate: %v, %d; at first %v, %d", again, n, first, places)
	}
}
