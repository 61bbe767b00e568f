package pack_test

import (
	"math"
	"strconv"
	"strings"
	"testing"

	"voxsat/api"
	"voxsat/pack"
)

const (
	most  = math.MaxInt64
	least = math.MinInt64
)

// number is one of a packet: where its bits begin, how many there are, and what it may be at most.
type number struct {
	name               string
	at                 *int
	begin, width, most int
}

// numbers are those of the chapter's table, one by one.
func numbers(p *api.Packet) []number {
	return []number{
		{"Kind", &p.Kind, 0, 2, 2},
		{"Refl[0]", &p.Refl[0], 2, 6, 63},
		{"Refl[1]", &p.Refl[1], 8, 6, 63},
		{"Refl[2]", &p.Refl[2], 14, 5, 31},
		{"Refl[3]", &p.Refl[3], 19, 5, 31},
		{"Refl[4]", &p.Refl[4], 24, 4, 15},
		{"Refl[5]", &p.Refl[5], 28, 4, 15},
		{"Refl[6]", &p.Refl[6], 32, 3, 7},
		{"Refl[7]", &p.Refl[7], 35, 3, 7},
		{"Subs[0].Lag", &p.Subs[0].Lag, 38, 6, 59},
		{"Subs[0].Pitch", &p.Subs[0].Pitch, 44, 3, 7},
		{"Subs[0].Index[0]", &p.Subs[0].Index[0], 47, 4, 9},
		{"Subs[0].Index[1]", &p.Subs[0].Index[1], 51, 4, 9},
		{"Subs[0].Index[2]", &p.Subs[0].Index[2], 55, 4, 9},
		{"Subs[0].Index[3]", &p.Subs[0].Index[3], 59, 4, 9},
		{"Subs[0].Signs", &p.Subs[0].Signs, 63, 4, 15},
		{"Subs[0].Level", &p.Subs[0].Level, 67, 5, 31},
		{"Subs[1].Lag", &p.Subs[1].Lag, 72, 6, 59},
		{"Subs[1].Pitch", &p.Subs[1].Pitch, 78, 3, 7},
		{"Subs[1].Index[0]", &p.Subs[1].Index[0], 81, 4, 9},
		{"Subs[1].Index[1]", &p.Subs[1].Index[1], 85, 4, 9},
		{"Subs[1].Index[2]", &p.Subs[1].Index[2], 89, 4, 9},
		{"Subs[1].Index[3]", &p.Subs[1].Index[3], 93, 4, 9},
		{"Subs[1].Signs", &p.Subs[1].Signs, 97, 4, 15},
		{"Subs[1].Level", &p.Subs[1].Level, 101, 5, 31},
	}
}

// mixed is a function that tells numbers from 0 to below a bound, the same ones for the same seed.
func mixed(seed uint32) func(bound int) int {
	return func(bound int) int {
		seed = seed*1664525 + 1013904223
		return int(seed>>8) % bound
	}
}

// some is a good packet, the same one for the same seed.
func some(seed uint32) api.Packet {
	var p api.Packet
	next := mixed(seed)
	for _, x := range numbers(&p) {
		*x.at = next(x.most + 1)
	}
	return p
}

// greatest is the packet whose numbers are all as great as they may be.
func greatest() api.Packet {
	var p api.Packet
	for _, x := range numbers(&p) {
		*x.at = x.most
	}
	return p
}

// bads are what a number of that bound may not be, some only just.
func bads(bound int) []int {
	return []int{
		bound + 1, -1, bound + 2, -2, 2*bound + 1, -bound, 64, 255, 256, 1 << 16, -1 << 16,
		1 << 31, -1 << 31, 1 << 32, 1<<32 + 1, -1<<32 + 1, 1 << 62, -1 << 62, most, most - 1, least, least + 1,
	}
}

// P10.1: every number at all that it may be, the others being noughts or as great as they may be.
func TestGood(t *testing.T) {
	for _, p := range []api.Packet{{}, greatest(), some(1)} {
		for i, x := range numbers(&p) {
			for n := range x.most + 1 {
				q := p
				*numbers(&q)[i].at = n
				if !pack.Good(q) {
					t.Errorf("Good, %s being %d: false", x.name, n)
				}
			}
		}
	}
	for seed := range uint32(2000) {
		if p := some(seed); !pack.Good(p) {
			t.Errorf("Good(%v): false", p)
		}
	}
}

// P10.1: each number out of its bounds alone, in good packets of each sort.
func TestGoodRefuses(t *testing.T) {
	for _, p := range []api.Packet{{}, greatest(), some(2)} {
		for i, x := range numbers(&p) {
			for _, bad := range bads(x.most) {
				q := p
				*numbers(&q)[i].at = bad
				if pack.Good(q) {
					t.Errorf("Good, %s being %d: true", x.name, bad)
				}
			}
		}
	}
}

// ones is how many bits of numbers are set, those below 0 counting as 0.
func ones(l ...int) int {
	n := 0
	for _, x := range l {
		if x > 0 {
			n += strings.Count(strconv.FormatInt(int64(x), 2), "1")
		}
	}
	return n
}

// P10.2: parities that were worked out by hand.
func TestParityByHand(t *testing.T) {
	for _, x := range []struct{ kind, lag, other, want int }{
		{0, 0, 0, 0},
		{1, 0, 0, 1}, {0, 1, 0, 1}, {0, 0, 1, 1},
		{1, 1, 0, 0}, {1, 0, 1, 0}, {0, 1, 1, 0}, {1, 1, 1, 1},
		{2, 0, 0, 1}, {2, 2, 0, 0}, {2, 59, 0, 0}, {1, 59, 3, 0}, {0, 59, 59, 0}, {2, 59, 59, 1},
		{0, 3, 0, 0}, {0, 7, 0, 1}, {0, 0, 31, 1}, {0, 0, 32, 1}, {0, 0, 48, 0},
		// No packet is good with these, but they have bits all the same.
		{3, 0, 0, 0}, {4, 0, 0, 1}, {0, 60, 0, 0}, {0, 64, 0, 1}, {0, 0, 255, 0}, {0, 0, 256, 1},
		{1 << 31, 0, 0, 1}, {0, 1 << 32, 0, 1}, {0, 0, 1 << 62, 1}, {1 << 62, 1 << 62, 0, 0},
		{most, 0, 0, 1}, {0, most, 0, 1}, {0, 0, most, 1}, {most, most, most, 1}, {most - 1, 0, 0, 0},
		// Below 0 all count as 0.
		{-1, 0, 0, 0}, {0, -1, 0, 0}, {0, 0, -1, 0}, {-2, 0, 0, 0}, {0, -2, 0, 0}, {0, 0, -2, 0},
		{least, 0, 0, 0}, {0, least, 0, 0}, {0, 0, least, 0}, {-2, 1, 0, 1}, {1, -2, least, 1}, {-1, -1, 2, 1}, {-7, 3, 0, 0},
	} {
		p := api.Packet{Kind: x.kind, Subs: [2]api.Sub{{Lag: x.lag}, {Lag: x.other}}}
		if n := pack.Parity(p); n != x.want {
			t.Errorf("Parity(Kind %d, Lags %d, %d): %d; wanted %d", x.kind, x.lag, x.other, n, x.want)
		}
	}
}

// P10.2: all kinds and lags of their bits, and each bit that a number has.
func TestParityOfAll(t *testing.T) {
	check := func(kind, lag, other int) {
		p := some(3)
		p.Kind, p.Subs[0].Lag, p.Subs[1].Lag = kind, lag, other
		if n := pack.Parity(p); n != ones(kind, lag, other)%2 {
			t.Errorf("Parity(Kind %d, Lags %d, %d): %d", kind, lag, other, n)
		}
	}
	for lag := range 64 {
		for other := range 64 {
			for kind := range 4 {
				check(kind, lag, other)
			}
		}
	}
	for i := range 63 {
		for _, x := range []int{1 << i, most - 1<<i, -1 << i, least + 1<<i} {
			check(x, 0, 0)
			check(0, x, 1)
			check(2, 0, x)
			check(x, x, x)
		}
	}
}

// P10.2: the other numbers don't count, whatever they are.
func TestParityOfOthers(t *testing.T) {
	for seed := range uint32(50) {
		p := some(seed)
		want := ones(p.Kind, p.Subs[0].Lag, p.Subs[1].Lag) % 2
		for i, x := range numbers(&p) {
			if x.name == "Kind" || strings.HasSuffix(x.name, "Lag") {
				continue
			}
			for _, n := range append(bads(x.most), *x.at^1, 0, x.most) {
				q := p
				*numbers(&q)[i].at = n
				if got := pack.Parity(q); got != want {
					t.Errorf("Parity, %s being %d: %d; wanted %d", x.name, n, got, want)
				}
			}
		}
	}
}
