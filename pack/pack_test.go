package pack_test

import (
	"fmt"
	"slices"
	"strconv"
	"strings"
	"testing"

	"voxsat/api"
	"voxsat/pack"
)

// bytesOf are bytes written as noughts and ones, with blanks anywhere.
func bytesOf(text string) []byte {
	text = strings.ReplaceAll(text, " ", "")
	var b []byte
	for ; text != ""; text = text[8:] {
		x, err := strconv.ParseUint(text[:8], 2, 8)
		if err != nil {
			panic(err)
		}
		b = append(b, byte(x))
	}
	return b
}

// withSum is fourteen bytes, or any others, and behind them the chapter's sum.
func withSum(b []byte) []byte {
	s := 90
	for _, x := range b {
		s += int(x)
	}
	return append(slices.Clone(b), byte(s%256))
}

// packed is what the chapter says of a packet's bytes, the parity and the last five bits being given. Numbers may be all that their bits hold.
func packed(p api.Packet, parity, spare int) []byte {
	text := ""
	for _, x := range numbers(&p) {
		text += fmt.Sprintf("%0*b", x.width, *x.at)
	}
	return withSum(bytesOf(text + fmt.Sprintf("%b%05b", parity, spare)))
}

// right is packed with the parity that is right.
func right(p api.Packet) []byte {
	return packed(p, ones(p.Kind, p.Subs[0].Lag, p.Subs[1].Lag)%2, 0)
}

// byHand are packets and their bytes, worked out by hand.
func byHand() []struct {
	p    api.Packet
	bits string
	sum  byte
} {
	return []struct {
		p    api.Packet
		bits string
		sum  byte
	}{
		{api.Packet{}, strings.Repeat("0", 112), 90},
		// Only the parity is set beside the kind: 90 + 64 + 32.
		{api.Packet{Kind: 1}, "01" + strings.Repeat("0", 104) + "1 00000", 186},
		{api.Packet{Kind: 2}, "10" + strings.Repeat("0", 104) + "1 00000", 250},
		{
			api.Packet{
				Kind: 1,
				Refl: [8]int{63, 1, 31, 0, 15, 2, 7, 4},
				Subs: [2]api.Sub{
					{Lag: 59, Pitch: 7, Index: [4]int{9, 0, 1, 2}, Signs: 15, Level: 31},
					{Lag: 3, Pitch: 1, Index: [4]int{3, 4, 5, 6}, Signs: 1, Level: 16},
				},
			},
			"01 111111 000001 11111 00000 1111 0010 111 100" +
				" 111011 111 1001 0000 0001 0010 1111 11111" +
				" 000011 001 0011 0100 0101 0110 0001 10000" +
				" 0 00000",
			// 90 + 127 + 7 + 224 + 242 + 243 + 191 + 32 + 37 + 255 + 12 + 154 + 43 + 12 + 0 is 1669.
			133,
		},
		{
			api.Packet{
				Kind: 2,
				Refl: [8]int{32, 33, 16, 17, 8, 9, 4, 5},
				Subs: [2]api.Sub{
					{Lag: 32, Pitch: 4, Index: [4]int{8, 9, 7, 5}, Signs: 8, Level: 17},
					{Lag: 40, Pitch: 6, Index: [4]int{1, 2, 4, 8}, Signs: 10, Level: 24},
				},
			},
			"10 100000 100001 10000 10001 1000 1001 100 101" +
				" 100000 100 1000 1001 0111 0101 1000 10001" +
				" 101000 110 0001 0010 0100 1000 1010 11000" +
				" 0 00000",
			// 90 + 160 + 134 + 17 + 137 + 150 + 9 + 18 + 235 + 17 + 163 + 9 + 36 + 86 + 0 is 1261.
			237,
		},
	}
}

// P10.3: packets whose bytes were worked out by hand.
func TestPackByHand(t *testing.T) {
	for _, x := range byHand() {
		want := append(bytesOf(x.bits), x.sum)
		if b, errno := pack.Pack(x.p); !slices.Equal(b, want) || errno != api.OK {
			t.Errorf("Pack(%v): %08b, %d; wanted %08b", x.p, b, errno, want)
		}
	}
}

// P10.3: each number alone stands where the table says, the others being noughts; parity, noughts and sum behind.
func TestPackOfEach(t *testing.T) {
	var noughts api.Packet
	for i, x := range numbers(&noughts) {
		for n := range x.most + 1 {
			var p api.Packet
			*numbers(&p)[i].at = n
			text := strings.Repeat("0", x.begin) + fmt.Sprintf("%0*b", x.width, n)
			text += strings.Repeat("0", 106-len(text))
			parity := strings.Count(text[:2]+text[38:44]+text[72:78], "1") % 2
			want := withSum(bytesOf(text + strconv.Itoa(parity) + "00000"))
			if b, errno := pack.Pack(p); !slices.Equal(b, want) || errno != api.OK {
				t.Errorf("Pack, %s being %d: %08b, %d; wanted %08b", x.name, n, b, errno, want)
			}
		}
	}
}

// P10.3: packets of all sorts; in all of them there are both parities, and sums that wrap.
func TestPackOfAll(t *testing.T) {
	parities := [2]int{}
	for seed := range uint32(20000) {
		p := some(seed)
		if seed == 0 {
			p = greatest()
		}
		want := right(p)
		b, errno := pack.Pack(p)
		if !slices.Equal(b, want) || errno != api.OK {
			t.Fatalf("Pack(%v): %08b, %d; wanted %08b", p, b, errno, want)
		}
		parities[b[13]>>5&1]++
	}
	if parities[0] == 0 || parities[1] == 0 {
		t.Errorf("parities: %d", parities)
	}
}

// P10.3: each number out of its bounds alone, even where its bits would hold it, and all of them.
func TestPackRefuses(t *testing.T) {
	refused := func(name string, bad int, p api.Packet) {
		t.Helper()
		if b, errno := pack.Pack(p); len(b) != 0 || errno != api.ErrRange {
			t.Errorf("Pack, %s being %d: %v, %d", name, bad, b, errno)
		}
	}
	for _, p := range []api.Packet{{}, greatest(), some(4)} {
		for i, x := range numbers(&p) {
			l := bads(x.most)
			for n := x.most + 1; n < 1<<x.width; n++ {
				l = append(l, n)
			}
			for _, bad := range l {
				q := p
				*numbers(&q)[i].at = bad
				refused(x.name, bad, q)
			}
		}
	}
	for _, bad := range []int{-1, 64, most, least} {
		var p api.Packet
		for _, x := range numbers(&p) {
			*x.at = bad
		}
		refused("all", bad, p)
	}
}

// What holds everywhere: answers are new memory.
func TestPackKeepsNothing(t *testing.T) {
	first, _ := pack.Pack(some(5))
	second, _ := pack.Pack(some(5))
	was := slices.Clone(second)
	first = first[:cap(first)]
	for i := range first {
		first[i] ^= 255
	}
	if third, _ := pack.Pack(some(5)); !slices.Equal(second, was) || !slices.Equal(third, was) {
		t.Error("Pack's answers share memory")
	}
}
