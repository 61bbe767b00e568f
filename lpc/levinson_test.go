package lpc_test

import (
	"fmt"
	"math"
	"math/big"
	"testing"

	"voxsat/api"
	"voxsat/front"
	"voxsat/lpc"
)

const most, least = math.MaxInt64, math.MinInt64

type (
	sums = [api.Order + 1]int
	refl = [api.Order]int
)

func wide(x int) *big.Int { return big.NewInt(int64(x)) }

func plus(a, b *big.Int) *big.Int { return new(big.Int).Add(a, b) }

func times(a, b *big.Int) *big.Int { return new(big.Int).Mul(a, b) }

// down is x / 2^n, rounded down.
func down(x *big.Int, n uint) *big.Int { return new(big.Int).Rsh(x, n) }

// nearest is x / 2^n, rounded.
func nearest(x *big.Int, n uint) *big.Int { return down(plus(x, wide(1<<(n-1))), n) }

// mixed are n numbers of at most so many bits, the same ones always.
func mixed(n int, seed uint32, width uint) []int {
	l := make([]int, n)
	x := seed
	for i := range l {
		x = x*1664525 + 1013904223
		l[i] = int(int32(x)) >> (32 - width)
	}
	return l
}

// grow is a predictor with one number more, by numbers without bounds.
func grow(old []*big.Int, q *big.Int) []*big.Int {
	m := len(old)
	a := []*big.Int{old[0]}
	for i := 1; i <= m; i++ {
		was := new(big.Int)
		if i < m {
			was = old[i]
		}
		a = append(a, plus(was, down(times(q, old[m-i]), 15)))
	}
	return a
}

// step is the sum s of a step, by numbers without bounds.
func step(a []*big.Int, r []int) *big.Int {
	m := len(a)
	s := new(big.Int)
	for i, x := range a {
		s.Add(s, down(times(down(x, 9), wide(r[m-i])), 15))
	}
	return s
}

// lessened is e behind a step.
func lessened(e, q *big.Int) *big.Int {
	return new(big.Int).Sub(e, down(times(down(times(e, q), 15), q), 15))
}

// levinson is Levinson by numbers without bounds, of numbers that are within theirs.
func levinson(r sums) (refl, int, bool) {
	var k refl
	a, e := []*big.Int{wide(1 << 24)}, wide(r[0])
	for m := range k {
		q := new(big.Int).Neg(step(a, r[:]))
		q.Quo(q.Lsh(q, 15), e)
		if q.CmpAbs(wide(32000)) >= 0 {
			return k, int(e.Int64()), false
		}
		k[m] = int(q.Int64())
		a = grow(a, q)
		e = lessened(e, q)
		if e.Sign() <= 0 {
			return k, 0, false
		}
	}
	return k, int(e.Int64()), true
}

// sameSteps holds Levinson against numbers without bounds; how many reflections it found is the answer.
func sameSteps(t *testing.T, remark string, r sums) int {
	t.Helper()
	k, e, ok := lpc.Levinson(r)
	wantK, wantE, wantOK := levinson(r)
	if k != wantK || e != wantE || ok != wantOK {
		t.Errorf("Levinson, %s, %v: %v, %d, %v; wanted %v, %d, %v", remark, r, k, e, ok, wantK, wantE, wantOK)
	}
	if e <= 0 {
		t.Errorf("Levinson, %s, %v: e is %d", remark, r, e)
	}
	found := api.Order
	for found > 0 && wantK[found-1] == 0 {
		found--
	}
	return found
}

// P4.1: numbers that were worked out by hand.
func TestLevinsonByHand(t *testing.T) {
	for _, x := range []struct {
		remark string
		r      sums
		k      refl
		e      int
		ok     bool
	}{
		{"nothing to foretell", sums{1 << 30}, refl{}, 1 << 30, true},
		{"the least r[0]", sums{1}, refl{}, 1, true},
		{"the greatest r[0]", sums{1<<31 - 1}, refl{}, 1<<31 - 1, true},
		// Each sample is half of the one ahead of it, and nothing else.
		{"falling", sums{1 << 24, 1 << 23, 1 << 22, 1 << 21, 1 << 20, 1 << 19, 1 << 18, 1 << 17, 1 << 16}, refl{-16384}, 3 << 22, true},
		{"only the last", sums{1 << 24, 0, 0, 0, 0, 0, 0, 0, -1 << 23}, refl{7: 16384}, 3 << 22, true},
		// 32768 / 3 is 10922 and a bit, and 3 less (-1 * -10922 by 2^15) stays.
		{"towards 0, below", sums{3, 0, 0, 0, 0, 0, 0, 0, 1}, refl{7: -10922}, 3, true},
		// 3 * 10922 by 2^15 is 0.
		{"towards 0, above", sums{3, 0, 0, 0, 0, 0, 0, 0, -1}, refl{7: 10922}, 3, true},
		// 5 * -26214 by 2^15 is -4, that times -26214 by 2^15 is 3.
		{"e of a reflection below 0", sums{5, 0, 0, 0, 0, 0, 0, 0, 4}, refl{7: -26214}, 2, true},
		// 5 * 26214 by 2^15 is 3, that times 26214 by 2^15 is 2.
		{"e of one above 0", sums{5, 0, 0, 0, 0, 0, 0, 0, -4}, refl{7: 26214}, 3, true},
		// 31999 * 31999 is 31248 * 2^15 and 1537.
		{"as great as may be", sums{32768, 0, 0, 0, 0, 0, 0, 0, -31999}, refl{7: 31999}, 32768 - 31248, true},
		{"too great", sums{32768, 0, 0, 0, 0, 0, 0, 0, -32000}, refl{}, 32768, false},
		{"as little as may be", sums{32768, 0, 0, 0, 0, 0, 0, 0, 31999}, refl{7: -31999}, 32768 - 31248, true},
		{"too little", sums{32768, 0, 0, 0, 0, 0, 0, 0, 32000}, refl{}, 32768, false},
		{"31999 and a half", sums{65536, 0, 0, 0, 0, 0, 0, 0, -63999}, refl{7: 31999}, 65536 - 62496, true},
		{"31999 and a half below 0", sums{65536, 0, 0, 0, 0, 0, 0, 0, 63999}, refl{7: -31999}, 65536 - 62496, true},
		{"too great at once", sums{1, 2}, refl{}, 1, false},
		{"far too great", sums{1, 1<<31 - 1}, refl{}, 1, false},
		{"far too little", sums{1, -(1<<31 - 1)}, refl{}, 1, false},
		// s is 2^30 behind reflection 1, which leaves 3 * 2^28: -2^15 * 4/3 is too little.
		{"the first and no more", sums{1 << 30, 1 << 29, 1<<30 + 1<<28}, refl{-16384}, 3 << 28, false},
	} {
		k, e, ok := lpc.Levinson(x.r)
		if k != x.k || e != x.e || ok != x.ok {
			t.Errorf("Levinson, %s: %v, %d, %v; wanted %v, %d, %v", x.remark, k, e, ok, x.k, x.e, x.ok)
		}
	}
}

// leading is sums of products that lead to such reflections, or nearly: each is chosen by what the step makes of it.
func leading(t *testing.T, k refl, e int) sums {
	t.Helper()
	r := sums{e}
	a, left := []*big.Int{wide(1 << 24)}, wide(e)
	for m, q := range k {
		aim := new(big.Int).Neg(down(times(wide(q), left), 15))
		x := aim.Sub(aim, step(a, r[:]))
		if !x.IsInt64() || x.CmpAbs(wide(1<<31-1)) > 0 {
			t.Fatalf("no sums lead to %v", k)
		}
		r[m+1] = int(x.Int64())
		exact := new(big.Int).Neg(step(a, r[:]))
		exact.Quo(exact.Lsh(exact, 15), left)
		a, left = grow(a, exact), lessened(left, exact)
	}
	return r
}

// P4.1: every way through the steps, against numbers without bounds.
func TestLevinsonLed(t *testing.T) {
	for _, e := range []int{1 << 31 / 2, 1<<31/3 + 7, 1 << 29, 1 << 24, 1000003} {
		for signs := range 1 << api.Order {
			for _, size := range []int{1, 8000, 16384, 29000} {
				var k refl
				for i := range k {
					k[i] = size - 2*size*(signs>>i&1)
				}
				sameSteps(t, "led", leading(t, k, e))
			}
		}
	}
	for seed := range uint32(3000) {
		k := refl(mixed(api.Order, seed, 15))
		sameSteps(t, "led by mixed ones", leading(t, k, 1<<30+int(seed)*70001))
	}
	if found := sameSteps(t, "all", leading(t, refl{-29000, 25000, -9000, 5000, 700, 1, -8, 20000}, 1<<30)); found != api.Order {
		t.Errorf("Levinson found %d", found)
	}
}

// P4.1: at each step the last reflection that may be, and the first that may not; behind that step there are noughts.
func TestLevinsonStops(t *testing.T) {
	// No sums lead exactly to the ends; about them each number of r is tried.
	for m := 1; m <= api.Order; m++ {
		for _, sign := range []int{1, -1} {
			k := refl{-9000, 5000, -700, 11000, 300, -6000, 2500, -80}
			k[m-1] = 32000 * sign
			for i := m; i < api.Order; i++ {
				k[i] = 0
			}
			r := leading(t, k, 1<<15)
			for i := m + 1; i <= api.Order; i++ {
				r[i] = 0
			}
			stopped, went := 0, 0
			for d := -3; d <= 3; d++ {
				near := r
				near[m] += d
				if found := sameSteps(t, "near the end", near); found < m {
					stopped++
				} else {
					went++
				}
			}
			if stopped == 0 || went == 0 {
				t.Errorf("step %d: %d stopped, %d went on", m, stopped, went)
			}
		}
	}
}

// P4.1: numbers that are no sums of products of anything, and small ones, where rounding is much.
func TestLevinsonOfAnything(t *testing.T) {
	seen := map[int]int{}
	for width := uint(1); width <= 31; width++ {
		for seed := range uint32(400) {
			r := sums(mixed(api.Order+1, 5000*uint32(width)+seed, width))
			r[0] = 1<<width - 1 - int(seed)%(1<<width-1)
			seen[sameSteps(t, "anything", r)]++
		}
	}
	for found := 0; found <= api.Order; found++ {
		if seen[found] == 0 {
			t.Errorf("nothing went to step %d: %v", found, seen)
		}
	}
	for e := 1; e <= 120; e++ {
		for x := -e; x <= e; x++ {
			sameSteps(t, "small", sums{e, x})
			sameSteps(t, "small", sums{e, -x / 2, x, 1, -1, x / 3})
			sameSteps(t, "small", sums{e, 1, 1, -1, 0, 0, -1, x / 2, x})
		}
	}
}

// P4.1: what it is for.
func TestLevinsonOfSamples(t *testing.T) {
	for width := uint(1); width <= 16; width++ {
		for seed := range uint32(40) {
			l := mixed(api.Window, 300*uint32(width)+seed, width)
			for i := 1; i < len(l); i++ {
				// The greater the seed, the more of a sample is that ahead of it.
				l[i] = (l[i]*(40-int(seed)) + l[i-1]*int(seed)) / 40
			}
			r, _, errno := front.Correlate(l)
			if errno != api.OK {
				t.Fatalf("Correlate: %d", errno)
			}
			sameSteps(t, "samples", r)
			if k, e, ok := lpc.Levinson(r); ok && e > r[0] {
				t.Errorf("Levinson of samples: %v, %d, more than there was", k, e)
			}
		}
	}
}

// P4.1: numbers beyond their bounds, at every place; the bounds themselves are taken.
func TestLevinsonRefuses(t *testing.T) {
	refused := func(remark string, r sums) {
		t.Helper()
		if k, e, ok := lpc.Levinson(r); k != (refl{}) || e != 0 || ok {
			t.Errorf("Levinson, %s, %v: %v, %d, %v", remark, r, k, e, ok)
		}
	}
	good := sums{1 << 30, 1 << 29, 1 << 28}
	for _, bad := range []int{1 << 31, -1 << 31, 1<<31 + 1, -1<<31 - 1, 1 << 32, 1<<32 + 5, -1 << 32, 1 << 48, 1 << 62, -1 << 62, most, least} {
		for i := range good {
			r := good
			r[i] = bad
			refused(fmt.Sprint("too far at ", i), r)
		}
	}
	for _, none := range []int{0, -1, -2, -1 << 30, -(1<<31 - 1)} {
		refused("r[0] not above 0", sums{none})
		refused("r[0] not above 0", sums{none, 1, 2, 3, 4, 5, 6, 7, 8})
	}
	for _, end := range []int{1<<31 - 1, -(1<<31 - 1)} {
		for i := 1; i <= api.Order; i++ {
			r := sums{1<<31 - 1}
			r[i] = end
			if k, e, ok := lpc.Levinson(r); k != (refl{}) || e != 1<<31-1 || ok {
				t.Errorf("Levinson, %d at %d: %v, %d, %v", end, i, k, e, ok)
			}
		}
	}
}
