package quant_test

import (
	"testing"

	"voxsat/api"
	"voxsat/quant"
)

// mixed is n numbers from 0 to below bound, the same ones for the same seed.
func mixed(n int, seed uint32, bound int) []int {
	l := make([]int, n)
	for i := range l {
		seed = seed*1664525 + 1013904223
		l[i] = int(seed>>8) % bound
	}
	return l
}

// P5.4: numbers that were worked out by hand; each reflection has its own levels.
func TestAllByHand(t *testing.T) {
	for _, x := range []struct{ k, want eight }{
		{eight{}, eight{31, 31, 15, 15, 7, 7, 3, 3}},
		{eight{1, 1, 1, 1, 1, 1, 1, 1}, eight{32, 32, 16, 16, 8, 8, 4, 4}},
		{eight{32768, 32768, 32768, 32768, 32768, 32768, 32768, 32768}, eight{63, 63, 31, 31, 15, 15, 7, 7}},
		{eight{-32768, -32768, -32768, -32768, -32768, -32768, -32768, -32768}, eight{}},
		{eight{30993, -30993, 30970, -30970, 30879, -30879, 30516, -30516}, eight{63, 0, 31, 0, 15, 0, 7, 0}},
	} {
		if l, errno := quant.All(x.k); l != x.want || errno != api.OK {
			t.Errorf("All(%v): %v, %d; wanted %v", x.k, l, errno, x.want)
		}
	}
}

// P5.4: numbers that were worked out by hand.
func TestValuesByHand(t *testing.T) {
	for _, x := range []struct{ l, want eight }{
		{eight{}, eight{-30993, -30993, -30970, -30970, -30879, -30879, -30516, -30516}},
		{eight{63, 63, 31, 31, 15, 15, 7, 7}, eight{30993, 30993, 30970, 30970, 30879, 30879, 30516, 30516}},
		{eight{32, 31, 16, 15, 8, 7, 4, 3}, eight{962, -962, 1908, -1908, 3754, -3754, 7266, -7266}},
	} {
		if k, errno := quant.Values(x.l); k != x.want || errno != api.OK {
			t.Errorf("Values(%v): %v, %d; wanted %v", x.l, k, errno, x.want)
		}
	}
}

// P5.4: All is One of each, and Values Level of each.
func TestAllAndValuesOfEach(t *testing.T) {
	for seed := range uint32(2000) {
		var k, numbers, values eight
		for i, x := range mixed(api.Order, seed, 65537) {
			k[i] = x - 32768
			numbers[i] = nearest(levels(i), k[i])
			values[i] = levels(i)[numbers[i]]
		}
		if l, errno := quant.All(k); l != numbers || errno != api.OK {
			t.Errorf("All(%v): %v, %d; wanted %v", k, l, errno, numbers)
		}
		if v, errno := quant.Values(numbers); v != values || errno != api.OK {
			t.Errorf("Values(%v): %v, %d; wanted %v", numbers, v, errno, values)
		}
	}
}

// P5.4: a wrong reflection, at every place and in all of them.
func TestAllRefuses(t *testing.T) {
	for _, bad := range tooFar() {
		for i := range api.Order {
			k := eight{1000, 2000, 3000, 4000, 5000, 6000, 7000, 8000}
			k[i] = bad
			if l, errno := quant.All(k); l != (eight{}) || errno != api.ErrRange {
				t.Errorf("All, %d at %d: %v, %d", bad, i, l, errno)
			}
		}
		if l, errno := quant.All(eight{bad, bad, bad, bad, bad, bad, bad, bad}); l != (eight{}) || errno != api.ErrRange {
			t.Errorf("All of %d: %v, %d", bad, l, errno)
		}
	}
}

// P5.4: a wrong number, at every place; what one reflection has may be too great for another.
func TestValuesRefuses(t *testing.T) {
	for i := range api.Order {
		for _, bad := range beyond(i) {
			l := eight{7, 6, 5, 4, 3, 2, 1, 0}
			l[i] = bad
			if v, errno := quant.Values(l); v != (eight{}) || errno != api.ErrRange {
				t.Errorf("Values, %d at %d: %v, %d", bad, i, v, errno)
			}
		}
	}
}
