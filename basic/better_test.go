package basic_test

import (
	"math"
	"math/big"
	"testing"

	"voxsat/basic"
)

// P1.8
func TestBetter(t *testing.T) {
	const most, least = math.MaxInt64, math.MinInt64
	for _, x := range []struct {
		c, e, d, f int
		want       bool
	}{
		{2, 1, 1, 1, true},
		{1, 1, 1, 1, false},
		{1, 1, 2, 1, false},
		{2, 4, 1, 1, false},
		{2, 3, 1, 1, true},
		{3, 10, 2, 4, false},
		{3, 8, 2, 4, true},
		{1, 3, 1, 4, true},
		{1, 4, 1, 3, false},
		{1, 3, 1, 3, false},
		{0, 1, 0, 1, false},
		{0, 5, 0, 7, false},

		{-5, 1, 0, 1, false},
		{-5, 1, 1, 1, false},
		{0, 1, -5, 1, false},
		{1, 1, -5, 1, true},
		{least, 1, least, 1, false},
		{1, most, least, 1, true},

		{5, 0, 1, 1, false},
		{5, -1, 1, 1, false},
		{5, least, 1, 1, false},
		{5, 0, 1, 0, false},
		{5, -1, 1, -1, false},
		{0, 1, 9, 0, true},
		{0, 1, 9, -1, true},
		{-3, 1, 9, least, true},

		{most, 1, most - 1, 1, true},
		{most - 1, 1, most, 1, false},
		{most, most, most, most, false},
		{most, most - 1, most, most, true},
		{most, most, most, most - 1, false},
		{1 << 40, 1<<62 + 1, 1 << 40, 1<<62 + 2, true},
		{1 << 32, 1, 1, 1, true},
		{1, 1, 1 << 32, 1, false},

		// Here the middle word of only one of the products carries.
		{1494369254668471285, 6155525711561932625, 1494369254668471284, 6155525711561932625, true},
		{1494369254668471284, 6155525711561932625, 1494369254668471285, 6155525711561932625, false},
		{2386709238533185153, 6864286640390121478, 2386709238533185150, 6864286640390121478, true},
		{2386709238533185150, 6864286640390121478, 2386709238533185153, 6864286640390121478, false},
	} {
		if got := basic.Better(x.c, x.e, x.d, x.f); got != x.want {
			t.Errorf("Better(%d, %d, %d, %d): %v", x.c, x.e, x.d, x.f, got)
		}
	}
}

// fraction is c * c / e, exactly, c below 0 counting as 0.
func fraction(c, e int) *big.Rat {
	n := wide(max(c, 0))
	return new(big.Rat).SetFrac(new(big.Int).Mul(n, n), wide(e))
}

// P1.8, against fractions without bounds.
func TestBetterOfAll(t *testing.T) {
	few := []int{math.MinInt64, -1, 0, 1, 2, 3, 7, 1<<16 + 1, 1<<32 - 1, 1 << 32, 1<<32 + 1, 3037000499, 3037000500, 1<<62 + 1, math.MaxInt64 - 1, math.MaxInt64}
	for _, c := range few {
		for _, e := range few {
			for _, d := range few {
				for _, f := range few {
					want := e > 0
					if e > 0 && f > 0 {
						want = fraction(c, e).Cmp(fraction(d, f)) > 0
					}
					if got := basic.Better(c, e, d, f); got != want {
						t.Errorf("Better(%d, %d, %d, %d): %v", c, e, d, f, got)
					}
				}
			}
		}
	}
}
