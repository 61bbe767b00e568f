package coder_test

import (
	"slices"
	"testing"

	"voxsat/api"
	"voxsat/coder"
	"voxsat/conceal"
)

// worked is a memory that packets are played on with numbers that were worked out apart from the program.
func worked() api.Memory {
	m := api.Memory{
		Refl: [8]int{-20000, 9000, -3000, 1000, 500, -400, 300, -200},
		Past: [8]int{900, 700, 400, 100, -200, -300, -200, 50},
		Gain: 300, Pitch: 9830, Lag: 50, Erased: 2, Seed: 4711, Silence: true,
	}
	for i := range m.Exc {
		m.Exc[i] = i*i*37%401 - 200
	}
	m.Exc[45] = 1500
	return m
}

// workedPacket is played on that memory.
func workedPacket(kind int) api.Packet {
	return api.Packet{
		Kind: kind,
		Refl: [8]int{10, 45, 12, 20, 5, 9, 2, 5},
		Subs: [2]api.Sub{
			{Lag: 15, Pitch: 6, Index: [4]int{0, 3, 9, 5}, Signs: 5, Level: 16},
			{Lag: 59, Pitch: 2, Index: [4]int{9, 0, 1, 7}, Signs: 8, Level: 20},
		},
	}
}

// checkDecode holds Decode of a packet against what is wanted.
func checkDecode(t *testing.T, m api.Memory, p api.Packet, want api.Memory, samples []int) {
	t.Helper()
	got, l := decoded(t, m, packed(t, p))
	if got != want || !slices.Equal(l, samples) {
		t.Errorf("Decode of %v on %v: %v, %v; wanted %v, %v", p, m, got, l, want, samples)
	}
}

// P12.1: noughts and a fresh memory, each time.
func TestBegin(t *testing.T) {
	want := api.Encoder{Memory: api.Memory{Lag: 20, Seed: 21845}}
	s := coder.Begin()
	if s != want {
		t.Errorf("Begin: %v; wanted %v", s, want)
	}
	s.Input[119], s.High.X[0], s.Memory.Lag = 7, 8, 9
	if again := coder.Begin(); again != want {
		t.Errorf("Begin once more: %v; wanted %v", again, want)
	}
}

// P12.2, P12.3: a voice frame; numbers that were worked out apart from the program.
func TestDecodeVoice(t *testing.T) {
	checkDecode(t, worked(), workedPacket(api.KindVoice), api.Memory{
		Refl: [8]int{-27663, 20639, -12080, 14986, -16348, 10536, -18891, 18891},
		Past: [8]int{-3320, -5539, -3755, -44, 1870, 2860, 4198, 3692},
		Exc: [80]int{
			2012, -103, 130, 36, 16, 70, 198, -1, -126, -177, -154, -57, 114, -554, -124, -132, -66, 74, -113, 175,
			136, 171, -121, -450, -82, -152, -148, -70, 82, -93, -194, 180, -174, -53, 142, 1500, -103, 130, 548, 16,
			-63, -1406, 17, 22, 600, -41, -1396, 14, 6, 28, 79, 0, -50, -71, -62, -23, 46, -17, -50, -53,
			-26, 30, -45, 70, 54, 68, -48, 25, -33, -61, -59, 1420, 33, -37, -78, 72, -1518, -21, 57, 805,
		},
		Gain: 1448, Pitch: 6554, Lag: 79, Seed: 4711,
	}, []int{
		2645, 3013, 1461, 792, 340, 31, 258, 222, 298, 21, -706, -752, -415, -759, -910, -650, -460, -194, -224, -30,
		428, 473, 234, -370, -687, -540, -575, -454, -39, 23, -265, -222, -199, -274, -26, 1658, 2239, 1212, 1180, 1025,
		-660, -2859, -4747, -5022, -2430, 253, -787, -2882, -2443, -1761, -2505, -2653, -1613, -100, 1266, 1017, -193, 34, 617, -348,
		-1060, -245, 559, 841, 917, 574, 436, 641, 34, -835, -601, 1330, 3692, 4198, 2860, 1870, -44, -3755, -5539, -3320,
	})
}

// P12.2, P12.3: a refresh knows nothing of the memory ahead; numbers that were worked out apart from the program.
func TestDecodeRefresh(t *testing.T) {
	want := api.Memory{
		Refl: [8]int{-27663, 20639, -12080, 14986, -16348, 10536, -18891, 18891},
		Past: [8]int{-3684, -5148, -3683, -54, 2008, 2885, 4282, 4025},
		Exc: [80]int{
			0: 512, 13: -512, 23: -512, 38: 512,
			41: -1448, 46: -1448, 71: 1448, 76: -1448, 79: 205,
		},
		Gain: 1448, Pitch: 6554, Lag: 79, Seed: 21845,
	}
	samples := []int{
		512, 451, -48, -12, -18, -35, 45, 26, 76, -51, -134, 16, 6, -515, -419, 33, 7, -4, 22, -5,
		-27, -81, 61, -393, -465, 44, 16, -3, 39, -43, 2, -68, 16, 137, -12, -12, 14, -34, 526, 452,
		-1017, -3108, -4832, -5085, -3785, -2417, -2856, -3921, -3370, -2312, -2381, -2400, -1359, -13, 887, 909, 370, 437, 873, 483,
		-67, 312, 880, 893, 641, 306, 110, 176, -49, -483, -306, 1612, 4025, 4282, 2885, 2008, -54, -3683, -5148, -3684,
	}
	for _, m := range []api.Memory{worked(), conceal.Fresh(), smallest(), greatest(), someMemory(1), someMemory(2)} {
		checkDecode(t, m, workedPacket(api.KindRefresh), want, samples)
	}
}

// P12.3: silence is noise, and leaves the lag and the gains as they were, whatever the halves' numbers; numbers that were worked out apart from the program.
func TestDecodeSilence(t *testing.T) {
	want := api.Memory{
		Refl: [8]int{-27663, 20639, -12080, 14986, -16348, 10536, -18891, 18891},
		Past: [8]int{-36, -30, -2, 22, 8, -13, -7, -7},
		Exc: [80]int{
			2, 7, -2, -3, 5, 5, 3, -5, 5, 7, 7, -3, 2, -5, -8, -8, 5, -2, -3, -2,
			7, 7, -4, -3, -7, -5, 6, -2, -6, -8, 7, 7, 6, -5, 7, -5, 2, -5, -3, 6,
			2, -3, -8, 2, 4, -1, 5, 6, 3, -2, -4, 3, 6, 1, 4, 6, -1, -4, -4, -6,
			-2, -1, 1, 5, -4, 6, -4, 7, 2, -8, 2, -1, 1, -7, 3, 6, -7, -6, -3, 3,
		},
		Gain: 300, Pitch: 9830, Lag: 50, Seed: 47127, Silence: true,
	}
	samples := []int{
		635, 233, 40, -41, -10, 50, 84, 93, -2, -91, -84, -66, -30, 4, 2, -5, -20, -30, -18, -9,
		9, 29, 18, 1, -13, -24, -10, 1, -3, -8, -5, 7, 14, 5, 8, 8, -1, -6, -11, -1,
		32, 42, 11, -10, -3, -3, -9, 4, 29, 46, 39, 12, 2, 16, 19, 16, 30, 37, 19, -8,
		-34, -48, -38, -18, -7, 9, 26, 25, 18, 5, -18, -23, -7, -7, -13, 8, 22, -2, -30, -36,
	}
	for _, subs := range [][2]api.Sub{{}, workedPacket(0).Subs, somePacket(1).Subs} {
		p := workedPacket(api.KindSilence)
		p.Subs = subs
		m := worked()
		checkDecode(t, m, p, want, samples)
		m.Silence = false
		checkDecode(t, m, p, want, samples)
	}
}

// P12.3: what tells of the frames ahead is no more behind a frame that came.
func TestDecodeForgets(t *testing.T) {
	for kind := range 3 {
		for lost := range 7 {
			m := worked()
			m.Erased = lost
			for _, m.Silence = range []bool{false, true} {
				n, _ := decoded(t, m, packed(t, workedPacket(kind)))
				if n.Erased != 0 || n.Silence != (kind == api.KindSilence) {
					t.Errorf("Decode, kind %d, %d erased: Erased %d, Silence %v", kind, lost, n.Erased, n.Silence)
				}
			}
		}
	}
}

// P12.2, P12.3, against steps of the test's own: good memories and packets of all kinds lead to good memories.
func TestDecodeOfAll(t *testing.T) {
	for seed := range uint32(3000) {
		m, p := someMemory(seed/2), somePacket(seed)
		switch seed % 50 {
		case 7:
			m = smallest()
		case 8:
			m = greatest()
		}
		want, samples := play(m, p)
		checkDecode(t, m, p, want, samples)
		if !conceal.Good(want) {
			t.Fatalf("behind %v on %v there is a memory that is not good: %v", p, m, want)
		}
	}
}

// P12.2, P12.3: packets whose numbers are all as small, or all as great, as they may be.
func TestDecodeEnds(t *testing.T) {
	small := api.Packet{}
	great := api.Packet{Refl: [8]int{63, 63, 31, 31, 15, 15, 7, 7}}
	for i := range great.Subs {
		great.Subs[i] = api.Sub{Lag: 59, Pitch: 7, Index: [4]int{9, 9, 9, 9}, Signs: 15, Level: 31}
	}
	for _, p := range []api.Packet{small, great} {
		for p.Kind = range 3 {
			for _, m := range []api.Memory{conceal.Fresh(), smallest(), greatest(), worked()} {
				for range 3 {
					want, samples := play(m, p)
					checkDecode(t, m, p, want, samples)
					m = want
				}
			}
		}
	}
}

// summed is bytes whose last one is the sum of the others.
func summed(b []byte) []byte {
	b = slices.Clone(b)
	b[14] = 90
	for _, x := range b[:14] {
		b[14] += x
	}
	return b
}

// turned is bytes of which one is another, the sum being right or not.
func turned(b []byte, i int, x byte, right bool) []byte {
	b = slices.Clone(b)
	b[i] ^= x
	if right {
		return summed(b)
	}
	return b
}

// P12.4: bytes that Unpack refuses are refused as it does.
func TestDecodeRefusesBytes(t *testing.T) {
	b := packed(t, workedPacket(api.KindVoice))
	for _, x := range []struct {
		name string
		b    []byte
		want api.Errno
	}{
		{"nil", nil, api.ErrSize},
		{"no bytes", []byte{}, api.ErrSize},
		{"one byte", []byte{90}, api.ErrSize},
		{"one too few", b[:14], api.ErrSize},
		{"one too many", append(slices.Clone(b), 0), api.ErrSize},
		{"two frames", slices.Concat(b, b), api.ErrSize},
		{"another sum", turned(b, 14, 1, false), api.ErrSum},
		{"a turned bit", turned(b, 3, 4, false), api.ErrSum},
		{"a spare bit, and another sum", turned(b, 13, 1, false), api.ErrSum},
		{"a spare bit", turned(b, 13, 1, true), api.ErrForm},
		{"the first spare bit", turned(b, 13, 16, true), api.ErrForm},
		{"kind 3, and a spare bit", turned(turned(b, 0, 192, true), 13, 8, true), api.ErrForm},
		{"kind 3", turned(b, 0, 192, true), api.ErrRange},
		{"another parity", turned(b, 13, 32, true), api.ErrForm},
	} {
		for _, m := range []api.Memory{conceal.Fresh(), worked()} {
			if n, l, errno := coder.Decode(m, x.b); errno != x.want || n != (api.Memory{}) || len(l) != 0 {
				t.Errorf("Decode, %s: %v, %v, %d; wanted nothing, %d", x.name, n, l, errno, x.want)
			}
		}
	}
}

// P12.4: memories that are not good are refused ahead of all bytes, a refresh's, too.
func TestDecodeRefusesMemories(t *testing.T) {
	b := packed(t, workedPacket(api.KindVoice))
	for _, m := range badMemories() {
		for _, b := range [][]byte{
			b, packed(t, workedPacket(api.KindRefresh)), packed(t, workedPacket(api.KindSilence)),
			nil, b[:14], turned(b, 3, 4, false), turned(b, 13, 1, true),
		} {
			if n, l, errno := coder.Decode(m, b); errno != api.ErrRange || n != (api.Memory{}) || len(l) != 0 {
				t.Errorf("Decode of %v on %v: %v, %v, %d; wanted nothing, ErrRange", b, m, n, l, errno)
			}
		}
	}
}

// What holds everywhere: bytes that are handed in stay as they are, their spare room too; answers are new memory.
func TestDecodeIsNew(t *testing.T) {
	for kind := range 3 {
		p := workedPacket(kind)
		want, samples := play(worked(), p)
		b, spare := roomy(packed(t, p), 77)
		m, first := decoded(t, worked(), b)
		_, second := decoded(t, worked(), b)
		if !slices.Equal(b, packed(t, p)) || !slices.Equal(spare, []byte{77, 77, 77}) {
			t.Errorf("Decode, kind %d: the bytes have changed", kind)
		}
		spoil(first, 12345)
		spoil(b, 3)
		if m != want || !slices.Equal(second, samples) {
			t.Errorf("Decode, kind %d: the answers share memory", kind)
		}
	}
}
