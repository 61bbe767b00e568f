package lpc_test

import (
	"math/big"
	"testing"

	"voxsat/api"
	"voxsat/lpc"
)

type predictor = [api.Order + 1]int

// noReflections are numbers that are not below one, some only just.
func noReflections() []int {
	return []int{32768, -32768, 32769, -32769, 65535, 65536, -65536, 1 << 31, -1 << 31, 1 << 32, 1<<32 + 5, 1 << 48, 1 << 62, most, least}
}

// direct is Direct by numbers without bounds.
func direct(k refl) predictor {
	a := []*big.Int{wide(1 << 24)}
	for _, q := range k {
		a = grow(a, wide(q))
	}
	var p predictor
	for i, x := range a {
		p[i] = int(nearest(x, 12).Int64())
	}
	return p
}

// P4.2: numbers that were worked out by hand.
func TestDirectByHand(t *testing.T) {
	for _, x := range []struct {
		remark string
		k      refl
		want   predictor
	}{
		{"noughts", refl{}, predictor{4096}},
		{"the first", refl{-16384}, predictor{4096, -2048}},
		{"the last", refl{7: -16384}, predictor{4096, 8: -2048}},
		// 3 and then 4 of 8 that make up one.
		{"rounded down", refl{7: 3}, predictor{4096}},
		{"half goes up", refl{7: 4}, predictor{4096, 8: 1}},
		{"half goes up below 0", refl{7: -4}, predictor{4096}},
		{"rounded down below 0", refl{7: -5}, predictor{4096, 8: -1}},
		{"the greatest", refl{7: 32767}, predictor{4096, 8: 4096}},
		{"the least", refl{7: -32767}, predictor{4096, 8: -4096}},
		// Reflection 1 makes number 1 2048, half of one; -2048 by 2^15 is -1, and it is less than half.
		{"each step is rounded down", refl{4, -1}, predictor{4096}},
		{"nothing is added", refl{4, 1}, predictor{4096, 1}},
		// In 2^21: 8 4; 8 6 4; 8 (6 + 2) (4 + 3) 4.
		{"of the old numbers", refl{16384, 16384, 16384}, predictor{4096, 4096, 3584, 2048}},
		{"in order", refl{-16384, 8192}, predictor{4096, -2560, 1024}},
		{"in the other order", refl{8192, -16384}, predictor{4096, 512, -2048}},
	} {
		a, errno := lpc.Direct(x.k)
		if errno != api.OK || a != x.want {
			t.Errorf("Direct, %s: %v, %d; wanted %v", x.remark, a, errno, x.want)
		}
	}
}

// P4.2, against numbers without bounds.
func TestDirectOfAll(t *testing.T) {
	same := func(k refl) {
		t.Helper()
		if a, errno := lpc.Direct(k); errno != api.OK || a != direct(k) {
			t.Errorf("Direct(%v): %v, %d; wanted %v", k, a, errno, direct(k))
		}
	}
	for signs := range 1 << api.Order {
		for _, size := range []int{1, 5, 1000, 20000, 32766, 32767} {
			var k refl
			for i := range k {
				k[i] = size - 2*size*(signs>>i&1)
			}
			same(k)
		}
	}
	for width := uint(2); width <= 16; width++ {
		for seed := range uint32(500) {
			k := refl(mixed(api.Order, 700*uint32(width)+seed, width))
			for i := range k {
				k[i] = max(k[i], -32767)
			}
			same(k)
		}
	}
}

// P4.2: wrong reflections, at every place.
func TestDirectRefuses(t *testing.T) {
	for _, bad := range noReflections() {
		for i := range api.Order {
			k := refl{1, 2, 3, 4, 5, 6, 7, 8}
			k[i] = bad
			if a, errno := lpc.Direct(k); errno != api.ErrRange || a != (predictor{}) {
				t.Errorf("Direct, %d at %d: %v, %d", bad, i, a, errno)
			}
		}
	}
}

// expand is Expand by numbers without bounds.
func expand(a predictor, g int) predictor {
	f := wide(32768)
	for i, x := range a {
		a[i] = int(nearest(times(wide(x), f), 15).Int64())
		f = nearest(times(f, wide(g)), 15)
	}
	return a
}

// P4.3: numbers that were worked out by hand.
func TestExpandByHand(t *testing.T) {
	all := predictor{4096, -4095, 4094, -4093, 7, -7, 1, -1, 1 << 30}
	const end = 1 << 30
	for _, x := range []struct {
		remark string
		a      predictor
		g      int
		want   predictor
	}{
		{"one keeps all", all, 32768, all},
		{"nought keeps the first", all, 0, predictor{4096}},
		{"the ends", predictor{end, -end, end, -end, end, -end, end, -end, end}, 32768, predictor{end, -end, end, -end, end, -end, end, -end, end}},
		{"halves", predictor{end, -end, end, -end, end, -end, end, -end, end}, 16384, predictor{end, -end >> 1, end >> 2, -end >> 3, end >> 4, -end >> 5, end >> 6, -end >> 7, end >> 8}},
		{"half goes up", predictor{1, 1, 2, 4}, 16384, predictor{1, 1, 1, 1}},
		{"half goes up below 0", predictor{-1, -1, -2, -4, -24}, 16384, predictor{-1, 0, 0, 0, -1}},
		{"less than half", predictor{0, 0, 1, -3}, 16384, predictor{}},
		// f is 32768, 1, then a 32768th of 1: nothing.
		{"f is rounded to nothing", predictor{0, 32768, end}, 1, predictor{0, 1, 0}},
		// f is 32768, 182, then 33124 of 32768 parts: 1.
		{"f is rounded down", predictor{0, 32768, 32768, 32768}, 182, predictor{0, 182, 1, 0}},
		// 150 * 150 is 22500, above half of 32768.
		{"f is rounded up", predictor{0, 32768, 32768, 32768}, 150, predictor{0, 150, 1, 0}},
		// 128 * 128 is half of 32768.
		{"half of f goes up", predictor{0, 32768, 32768, 32768}, 128, predictor{0, 128, 1, 0}},
		{"less than half of f", predictor{0, 32768, 32768, 32768}, 127, predictor{0, 127, 0, 0}},
		// 30000, 27466 (.2), 25146 (25145.9).
		{"f of f", predictor{0, 32768, 32768, 32768}, 30000, predictor{0, 30000, 27466, 25146}},
	} {
		a, errno := lpc.Expand(x.a, x.g)
		if errno != api.OK || a != x.want {
			t.Errorf("Expand, %s: %v, %d; wanted %v", x.remark, a, errno, x.want)
		}
	}
}

// P4.3, against numbers without bounds.
func TestExpandOfAll(t *testing.T) {
	const end = 1 << 30
	for g := 0; g <= 32768; g++ {
		for _, a := range []predictor{
			predictor(mixed(api.Order+1, uint32(g), 31)),
			predictor(mixed(api.Order+1, uint32(g), 14)),
			{end, end, end, end, end, end, end, end, end},
			{-end, -end, -end, -end, -end, -end, -end, -end, -end},
		} {
			if got, errno := lpc.Expand(a, g); errno != api.OK || got != expand(a, g) {
				t.Errorf("Expand(%v, %d): %v, %d; wanted %v", a, g, got, errno, expand(a, g))
			}
		}
	}
}

// P4.3: wrong numbers, at every place, and wrong g.
func TestExpandRefuses(t *testing.T) {
	refused := func(a predictor, g int) {
		t.Helper()
		if got, errno := lpc.Expand(a, g); errno != api.ErrRange || got != (predictor{}) {
			t.Errorf("Expand(%v, %d): %v, %d", a, g, got, errno)
		}
	}
	good := predictor{4096, 1, 2, 3, 4, 5, 6, 7, 8}
	for _, g := range []int{-1, 32769, -32768, 65536, 1 << 31, 1 << 32, 1<<32 + 5, -1 << 32, most, least} {
		refused(good, g)
		refused(predictor{}, g)
		refused(predictor{1<<30 + 1}, g)
	}
	for _, bad := range []int{1<<30 + 1, -1<<30 - 1, 1 << 31, -1 << 31, 1 << 32, 1<<32 + 5, -1 << 32, 1 << 62, most, least} {
		for i := range good {
			for _, g := range []int{0, 1, 30000, 32768} {
				a := good
				a[i] = bad
				refused(a, g)
			}
		}
	}
}

// mix is Mix by numbers without bounds.
func mix(a, b refl, num int) refl {
	for i, x := range a {
		sum := plus(times(wide(x), wide(4-num)), times(wide(b[i]), wide(num)))
		a[i] = int(sum.Quo(sum, wide(4)).Int64())
	}
	return a
}

// P4.4: numbers that were worked out by hand.
func TestMixByHand(t *testing.T) {
	a := refl{0, 1, -1, 7, -7, 32767, -32767, 10000}
	b := refl{4, 2, -2, -7, 7, 32767, 32767, -30000}
	for num, want := range []refl{
		a,
		{1, 1, -1, 3, -3, 32767, -16383, 0},
		{2, 1, -1, 0, 0, 32767, 0, -10000},
		{3, 1, -1, -3, 3, 32767, 16383, -20000},
		b,
	} {
		if m, errno := lpc.Mix(a, b, num); errno != api.OK || m != want {
			t.Errorf("Mix by %d: %v, %d; wanted %v", num, m, errno, want)
		}
	}
}

// P4.4, against numbers without bounds.
func TestMixOfAll(t *testing.T) {
	for width := uint(2); width <= 16; width++ {
		for seed := range uint32(400) {
			l := mixed(2*api.Order, 900*uint32(width)+seed, width)
			for i := range l {
				l[i] = max(l[i], -32767)
			}
			a, b := refl(l[:api.Order]), refl(l[api.Order:])
			for num := 0; num <= 4; num++ {
				if m, errno := lpc.Mix(a, b, num); errno != api.OK || m != mix(a, b, num) {
					t.Errorf("Mix(%v, %v, %d): %v, %d; wanted %v", a, b, num, m, errno, mix(a, b, num))
				}
			}
		}
	}
}

// P4.4: wrong reflections in either list, at every place and also where num takes none of them; wrong num.
func TestMixRefuses(t *testing.T) {
	refused := func(a, b refl, num int) {
		t.Helper()
		if m, errno := lpc.Mix(a, b, num); errno != api.ErrRange || m != (refl{}) {
			t.Errorf("Mix(%v, %v, %d): %v, %d", a, b, num, m, errno)
		}
	}
	good := refl{1, 2, 3, 4, 5, 6, 7, -32767}
	for _, num := range []int{-1, 5, -4, 8, 1 << 31, 1 << 32, 1<<32 + 2, -1 << 32, 1 << 62, most, least} {
		refused(good, good, num)
		refused(refl{}, refl{}, num)
		refused(refl{32768}, good, num)
	}
	for _, bad := range noReflections() {
		for i := range good {
			wrong := good
			wrong[i] = bad
			for num := 0; num <= 4; num++ {
				refused(wrong, good, num)
				refused(good, wrong, num)
			}
		}
	}
}
