package coder_test

import (
	"fmt"
	"slices"
	"testing"

	"voxsat/api"
	"voxsat/coder"
	"voxsat/conceal"
	"voxsat/front"
)

// marked is eighty noughts but for a few numbers at their places.
func marked(numbers map[int]int) []int {
	l := make([]int, 80)
	for i, x := range numbers {
		l[i] = x
	}
	return l
}

// even is eighty times the same number.
func even(x int) []int { return slices.Repeat([]int{x}, 80) }

// P12.6, P12.7: the first frames of a voice, the third one a refresh; numbers that were worked out apart from the program.
func TestEncodeBeats(t *testing.T) {
	s, next := coder.Begin(), signals()["beats"]
	for i, x := range []struct {
		p     api.Packet
		b     []byte
		heard []int
	}{
		{api.Packet{Kind: 0, Refl: [8]int{33, 36, 8, 17, 7, 8, 3, 4}, Subs: [2]api.Sub{
			{Lag: 0, Pitch: 0, Index: [4]int{1, 0, 0, 0}, Signs: 7, Level: 25},
			{Lag: 37, Pitch: 3, Index: [4]int{7, 5, 4, 3}, Signs: 12, Level: 22},
		}}, []byte{33, 145, 17, 120, 112, 0, 32, 0, 249, 149, 186, 161, 229, 160, 147}, []int{
			0, 5311, 5570, -5856, 6208, 2552, -3293, 2940, 209, -865, 73, 564, -147, -800, 776, -206, -478, 469, -123, -159,
			103, 51, -75, -31, 112, -68, -28, 74, -38, -13, 26, -4, -13, 6, 10, -13, 2, 8, -8, 1,
			6, -4, -2, 4, -1, -3, 3, 1, -3, 2, 2, -3, 1, 2, -2, 2435, 688, -708, 7331, 4942,
			-4515, 4205, 3913, -4182, 3170, 3111, -3481, 929, -64, -2606, 267, 234, -989, -747, 255, -152, -990, 576, 214, -1006,
		}},
		{api.Packet{Kind: 0, Refl: [8]int{33, 36, 9, 17, 7, 8, 3, 4}, Subs: [2]api.Sub{
			{Lag: 37, Pitch: 6, Index: [4]int{9, 0, 8, 0}, Signs: 1, Level: 19},
			{Lag: 34, Pitch: 7, Index: [4]int{0, 2, 1, 2}, Signs: 1, Level: 20},
		}}, []byte{33, 145, 49, 120, 114, 93, 33, 0, 51, 139, 129, 9, 13, 32, 26}, []int{
			510, -807, -1009, -465, -737, -144, -429, -305, 28, -443, 29, 113, -263, 119, 49, -119, 86, 32, -17, 8,
			29, 22, -41, 37, 27, -54, 34, 20, -43, 21, 15, -25, 2440, 666, -1850, 6949, 6260, -5023, 3554, 4640,
			-3003, 2824, 242, -2956, 1016, 129, -2113, -783, 482, -2320, -1455, -99, -1593, -714, 284, -1847, -849, -647, -1086, -10,
			-324, -320, -72, -231, 117, -61, -19, 181, -133, 60, 125, -92, 70, 43, -42, 30, 9, 4, -11, 3,
		}},
		{api.Packet{Kind: 1, Refl: [8]int{33, 36, 8, 17, 7, 8, 3, 4}, Subs: [2]api.Sub{
			{Lag: 0, Pitch: 0, Index: [4]int{3, 3, 3, 3}, Signs: 11, Level: 25},
			{Lag: 37, Pitch: 3, Index: [4]int{7, 7, 8, 8}, Signs: 6, Level: 22},
		}}, []byte{97, 145, 17, 120, 112, 0, 102, 103, 121, 149, 187, 196, 53, 128, 84}, []int{
			0, 0, 0, 0, 0, 0, 0, 0, 0, 0, 0, 0, 5311, 5570, -5856, 6208, 2552, -3293, 2940, 209,
			-865, 73, 564, -147, -800, 776, -206, -478, 469, -123, -159, 103, 51, -75, -31, 112, -68, -28, 74, -38,
			-11, 46, -10, -19, 20, 12, -22, 7, 21, -23, 0, 22, -18, -4, 18, -11, -7, 13, -4, -9,
			8, 1, -9, 4, 4, -8, 1, 5, -2441, 4934, 5482, -5635, 5138, 5052, -3207, 2412, 2259, -1821, 366, 1827,
		}},
	} {
		n, b, heard := encoded(t, s, frameOf(next), i == 2)
		if p := unpacked(t, b); p != x.p || !slices.Equal(b, x.b) || !slices.Equal(heard, x.heard) {
			t.Errorf("Encode, frame %d: %v, %v, %v; wanted %v", i, p, b, heard, x)
		}
		s = n
	}
}

// P12.6 and the first example of the whole: noughts at first are packed as silence, and heard as a soft noise; worked out apart from the program.
func TestEncodeNoughts(t *testing.T) {
	s, b, heard := encoded(t, coder.Begin(), make([]int, 80), false)
	want := coder.Begin()
	want.Memory.Refl = [8]int{-962, -962, -1908, -1908, -3754, -3754, -7266, -7266}
	want.Memory.Past = [8]int{-4, 7, -5, 5, 5, 3, -1, 1}
	want.Memory.Seed, want.Memory.Silence = 13445, true
	want.Memory.Exc = [80]int{
		-8, -3, 5, 5, -3, -4, -3, -4, 6, 6, 2, -7, -6, -7, -8, 1, 7, -2, -3, 2,
		-4, -5, -3, -7, 1, 3, -3, -3, -6, 2, 1, 3, -7, 2, 7, -7, -6, -6, -6, -4,
		6, -5, 1, 3, 1, 3, -2, 2, -3, -5, 1, -6, 6, -7, 4, 4, 6, -1, -3, -6,
		-1, -5, 0, 0, 4, 7, -4, 4, 2, 7, -6, 3, 0, -1, 3, 4, 4, -5, 7, -5,
	}
	samples := []int{
		-8, -3, 5, 5, -3, -4, -3, -5, 5, 6, 3, -7, -7, -8, -8, 1, 8, -2, -4, 0,
		-6, -6, -3, -6, 1, 2, -4, -4, -8, 1, 0, 2, -7, 1, 6, -8, -7, -6, -6, -4,
		5, -6, -1, -1, -3, 0, -4, 2, -4, -7, 1, -7, 5, -8, 3, 3, 3, -3, -4, -7,
		0, -5, 2, 0, 3, 4, -7, 2, 1, 7, -6, 4, 1, -1, 3, 5, 5, -5, 7, -4,
	}
	if s != want || !slices.Equal(heard, samples) {
		t.Errorf("Encode of noughts: %v, %v; wanted %v, %v", s, heard, want, samples)
	}
	if !slices.Equal(b, []byte{159, 125, 239, 119, 108, 0, 0, 0, 0, 0, 0, 0, 0, 32, 104}) {
		t.Errorf("Encode of noughts: %v", b)
	}
}

// P12.6: noughts that are a refresh are no silence, and have halves; worked out apart from the program.
func TestEncodeNoughtsAnew(t *testing.T) {
	half := api.Sub{Signs: 15}
	want := api.Packet{Kind: 1, Refl: [8]int{31, 31, 15, 15, 7, 7, 3, 3}, Subs: [2]api.Sub{half, half}}
	s, b, heard := encoded(t, coder.Begin(), make([]int, 80), true)
	if p := unpacked(t, b); p != want || s.Memory.Silence || !slices.Equal(heard[:10], []int{8, 8, 8, 8, 0, 1, 1, 2, 3, 2}) {
		t.Errorf("Encode of noughts, a refresh: %v, %v", p, heard)
	}
}

// P12.6: which kind a frame is, by the squares of its eighty samples behind the high-pass.
func TestEncodeKinds(t *testing.T) {
	begin := coder.Begin()
	ringing, settled, loud := begin, begin, begin
	ringing.High.Y = [2]int{3000, 3000}
	settled.High.X = [2]int{1000, 1000}
	for i := range loud.Input {
		loud.Input[i] = 30000 * (1 - i%3)
	}
	for _, x := range []struct {
		name string
		s    api.Encoder
		l    []int
		want int
	}{
		{"squares of 1280", begin, marked(map[int]int{0: 20, 40: 26}), api.KindVoice},
		{"squares of 1279", begin, marked(map[int]int{0: 26, 40: 17}), api.KindSilence},
		{"squares of 1281", begin, marked(map[int]int{0: 27, 20: 10}), api.KindVoice},
		{"1296 in the last sample", begin, marked(map[int]int{79: 39}), api.KindVoice},
		{"1225 in the last sample", begin, marked(map[int]int{79: 38}), api.KindSilence},
		{"1296 below 0", begin, marked(map[int]int{79: -39}), api.KindVoice},
		{"1225 below 0", begin, marked(map[int]int{79: -38}), api.KindSilence},
		{"noughts behind which the high-pass rings", ringing, make([]int, 80), api.KindVoice},
		{"steady samples that the high-pass takes away", settled, even(1000), api.KindSilence},
		{"steady samples that begin", begin, even(1000), api.KindVoice},
		{"noughts behind a loud input", loud, make([]int, 80), api.KindSilence},
		{"all as loud as may be", begin, even(32767), api.KindVoice},
		{"all as low as may be", begin, even(-32768), api.KindVoice},
	} {
		s, b, _ := encoded(t, x.s, x.l, false)
		p := unpacked(t, b)
		if p.Kind != x.want || s.Memory.Silence != (x.want == api.KindSilence) {
			t.Errorf("Encode, %s: kind %d; wanted %d", x.name, p.Kind, x.want)
		}
		if x.want == api.KindSilence && p.Subs != [2]api.Sub{} {
			t.Errorf("Encode, %s: %v; wanted noughts in the halves", x.name, p)
		}
		if _, b, _ := encoded(t, x.s, x.l, true); unpacked(t, b).Kind != api.KindRefresh {
			t.Errorf("Encode, %s, as a refresh: %v", x.name, unpacked(t, b))
		}
	}
}

// P12.6: reflections that stop short are noughts from there on; numbers that were worked out apart from the program.
func TestEncodeStopsShort(t *testing.T) {
	for _, x := range []struct {
		name string
		want [3][8]int
	}{
		{"fast wave", [3][8]int{{31, 31, 15, 15, 7, 7, 3, 3}, {31, 31, 15, 15, 7, 7, 3, 3}, {31, 31, 15, 15, 7, 7, 3, 3}}},
		{"tone", [3][8]int{{22, 31, 15, 15, 7, 7, 3, 3}, {21, 31, 15, 15, 7, 7, 3, 3}, {21, 31, 15, 15, 7, 7, 3, 3}}},
		{"slow wave", [3][8]int{{0, 33, 16, 16, 8, 8, 4, 4}, {31, 31, 15, 15, 7, 7, 3, 3}, {31, 31, 15, 15, 7, 7, 3, 3}}},
	} {
		s, next := coder.Begin(), signals()[x.name]
		for i, want := range x.want {
			n, b, _ := encoded(t, s, frameOf(next), false)
			if p := unpacked(t, b); p.Refl != want {
				t.Errorf("Encode, %s, frame %d: %v; wanted %v", x.name, i, p.Refl, want)
			}
			s = n
		}
	}
}

// P12.6: the session goes on with what is behind the high-pass, the last forty of what was and the eighty that came, in a refresh, too.
func TestEncodeInput(t *testing.T) {
	for seed := range uint32(60) {
		s, next := someSession(seed), mixed(seed)
		l := frameOf(func() int { return next(-32768, 32767) })
		high, remembered, _ := front.High(s.High, l)
		n, _, _ := encoded(t, s, l, seed%3 == 0)
		if n.High != remembered || n.Input != [120]int(slices.Concat(s.Input[80:], high)) {
			t.Errorf("Encode of session %d: %v, %v", seed, n.High, n.Input)
		}
	}
}

// P12.6: sessions of many kinds of samples, a refresh amidst, and their other ends, two frames being lost; numbers that were worked out apart from the program.
func TestSessions(t *testing.T) {
	for _, x := range []struct {
		name          string
		spoken, heard digest
		kinds         string
	}{
		{"noughts", 0xa9e08d9843a8602d, 0xb1fbfcd38a3f216a, "222222221222"},
		{"beats", 0x514bdc594ee2770e, 0x0060691a5ca48f83, "000000001000"},
		{"hush and beats", 0xb52583a9c55d156c, 0x5ce6ad11d24f5fb2, "220000001000"},
		{"noise", 0x5d54bd1c1ecd2d86, 0xe0595a94a766c2cb, "000000001000"},
		{"breath", 0xca6b55ea73dda451, 0x21ca37d8df183d13, "200200001000"},
		{"growing", 0x672ffee322c3b71b, 0xf7cdc460bb325b7a, "000000001000"},
		{"square", 0xea6677f6487da37d, 0x0e2ef868b63c6e71, "000000001000"},
		{"slow wave", 0x7ec74b48ef136d6b, 0xa7430b18c1e6a38c, "000000001000"},
		{"fast wave", 0x8256882c82dcb6ec, 0x0a8fea25204a74be, "000000001000"},
		{"steady", 0xa871e442645d000e, 0x95e3977e915b9ea2, "000000001000"},
		{"ticks", 0x96178c0a759f09fb, 0xe6656e22c90962c1, "000000001000"},
		{"tone", 0x2c56157c5d668c0a, 0x41681536fd4795c3, "000000001000"},
		{"hum", 0xece8d4c8800ae6df, 0x1ccfe6e3ebff7001, "000000001000"},
		{"loud hum", 0xe47ac29203af3a4e, 0x36002667334c9ba7, "000000001000"},
		{"loud short", 0x3777739051d258af, 0x61e1a1c9717d3f46, "000000001000"},
	} {
		var spoken, heard digest
		kinds := ""
		s, m, next := coder.Begin(), conceal.Fresh(), signals()[x.name]
		for i := range 12 {
			n, b, l := encoded(t, s, frameOf(next), i == 8)
			s = n
			kinds += fmt.Sprint(unpacked(t, b).Kind)
			spoken.addBytes(b)
			spoken.add(l...)
			spoken.addSession(s)
			if i == 5 || i == 6 {
				m, l = erased(t, m)
			} else {
				m, l = decoded(t, m, b)
			}
			heard.add(l...)
			heard.addMemory(m)
		}
		if spoken != x.spoken || heard != x.heard || kinds != x.kinds {
			t.Errorf("%s: %#x, %#x, %s; wanted %#x, %#x, %s", x.name, spoken, heard, kinds, x.spoken, x.heard, x.kinds)
		}
	}
}

// P12.6, P12.7: sessions that begin with any good memory; numbers that were worked out apart from the program.
func TestSessionsFromAnywhere(t *testing.T) {
	var names []string
	for name := range signals() {
		names = append(names, name)
	}
	slices.Sort(names)
	for seed, want := range []digest{
		0x5ab3687f7588a570, 0x1e9efa6c42b0372c, 0xf8a4401b2e5dbb0c, 0x96dbebdb27961f87, 0x500de433b992aba2, 0x233bd542bc588c86,
		0x5cd2bc3c06520454, 0x258825e3afeef439, 0x05ad06f788b24195, 0x2518a74b81b89a4e, 0xd9dcd6b0341ec19f, 0x63e558635c564673,
		0x8385415f7a4974ae, 0xbfb430197a3360eb, 0x98be9d5754f3d804, 0x87426148d20b8a8f, 0xd337a627480a7ad4, 0xa5f45deb88d96bbd,
		0x6eb45b8f93fc821f, 0xaf906adeed841d9b, 0x50a8a8c0f9477a6b, 0xbfab9ec899d65f5e, 0x980c13256ae733e7, 0xfa0d655f6bca7624,
	} {
		var got digest
		s, all := someSession(uint32(seed)), signals()
		for i := range 4 {
			next := all[names[(seed+i)%len(names)]]
			n, b, heard := encoded(t, s, frameOf(next), i == 3 && seed%3 == 0)
			s = n
			got.addBytes(b)
			got.add(heard...)
			got.addSession(s)
		}
		if got != want {
			t.Errorf("session %d: %#x; wanted %#x", seed, got, want)
		}
	}
}

// P12.6, P12.7, against steps of the test's own: sessions and samples of all kinds, soft and loud.
func TestEncodeOfAll(t *testing.T) {
	check := func(s api.Encoder, l []int, refresh bool) api.Encoder {
		want, bytes, samples := encode(s, l, refresh)
		n, b, heard := encoded(t, s, l, refresh)
		if n != want || !slices.Equal(b, bytes) || !slices.Equal(heard, samples) {
			t.Errorf("Encode(%v, %v, %v): %v, %v, %v; wanted %v, %v, %v", s, l, refresh, n, b, heard, want, bytes, samples)
		}
		if !conceal.Good(n.Memory) {
			t.Fatalf("behind %v there is a memory that is not good: %v", s, n.Memory)
		}
		return n
	}
	for seed := range uint32(400) {
		s, next := someSession(seed), mixed(seed+5)
		size := []int{2, 40, 1000, 32767}[seed/4%4]
		for i := range 3 {
			s = check(s, frameOf(func() int { return next(-size, size) }), (seed+uint32(i))%5 == 0)
		}
	}
	for _, m := range []api.Memory{smallest(), greatest()} {
		for _, x := range []int{0, 32767, -32768} {
			s := coder.Begin()
			s.Memory = m
			check(check(s, even(x), false), even(-x/2), false)
			check(check(s, even(x), true), even(-x/2), false)
		}
	}
}

// P12.6: of the input only the last forty go on; what stands ahead of them is asked for by nobody, be it samples or not.
func TestEncodeOldInput(t *testing.T) {
	l := frameOf(signals()["hum"])
	want, bytes, _ := encoded(t, coder.Begin(), l, false)
	for i := range 80 {
		for _, x := range notSamples() {
			s := coder.Begin()
			s.Input[i] = x
			if n, b, _ := encoded(t, s, l, false); n != want || !slices.Equal(b, bytes) {
				t.Errorf("Encode, input %d being %d: another answer", i, x)
			}
		}
	}
}

// refuseEncode holds that Encode refuses what it is given, and tells nothing else.
func refuseEncode(t *testing.T, name string, s api.Encoder, l []int, want api.Errno) {
	t.Helper()
	for _, refresh := range []bool{false, true} {
		n, b, heard, errno := coder.Encode(s, l, refresh)
		if errno != want || n != (api.Encoder{}) || len(b) != 0 || len(heard) != 0 {
			t.Errorf("Encode, %s: %v, %v, %v, %d; wanted nothing, %d", name, n, b, heard, errno, want)
		}
	}
}

// P12.6: lists of other lengths, whatever else is wrong.
func TestEncodeRefusesSizes(t *testing.T) {
	wrong := someSession(3)
	wrong.Memory.Lag, wrong.High.X[0], wrong.Input[119] = 0, 40000, 40000
	for _, s := range []api.Encoder{coder.Begin(), someSession(2), wrong, {}} {
		refuseEncode(t, "nil", s, nil, api.ErrSize)
		for _, n := range []int{0, 1, 15, 40, 79, 81, 119, 120, 160, 1000} {
			refuseEncode(t, fmt.Sprint(n, " samples"), s, make([]int, n), api.ErrSize)
			refuseEncode(t, fmt.Sprint(n, " no samples"), s, slices.Repeat([]int{40000}, n), api.ErrSize)
		}
	}
}

// P12.6: memories that are not good, a refresh, too, that would forget them.
func TestEncodeRefusesMemories(t *testing.T) {
	for _, m := range badMemories() {
		s := someSession(1)
		s.Memory = m
		refuseEncode(t, "no memory", s, make([]int, 80), api.ErrRange)
	}
	refuseEncode(t, "noughts for a session", api.Encoder{}, make([]int, 80), api.ErrRange)
}

// P12.6: numbers that are no samples: those that are spoken, the high-pass's, the input's last forty.
func TestEncodeRefusesNumbers(t *testing.T) {
	for _, x := range notSamples() {
		for i := range 80 {
			refuseEncode(t, fmt.Sprint("sample ", i, " being ", x), coder.Begin(), marked(map[int]int{i: x}), api.ErrRange)
		}
		for i := range 4 {
			s := coder.Begin()
			*[]*int{&s.High.X[0], &s.High.X[1], &s.High.Y[0], &s.High.Y[1]}[i] = x
			refuseEncode(t, fmt.Sprint("the high-pass's ", i, " being ", x), s, make([]int, 80), api.ErrRange)
		}
		for i := 80; i < 120; i++ {
			s := coder.Begin()
			s.Input[i] = x
			refuseEncode(t, fmt.Sprint("input ", i, " being ", x), s, make([]int, 80), api.ErrRange)
		}
	}
}

// P12.6: samples at their ends are samples.
func TestEncodeEnds(t *testing.T) {
	for _, x := range []int{-32768, 32767} {
		s := coder.Begin()
		s.High = api.HighPass{X: [2]int{x, x}, Y: [2]int{x, x}}
		for i := range s.Input {
			s.Input[i] = x
		}
		want, bytes, samples := encode(s, even(x), false)
		if n, b, heard := encoded(t, s, even(x), false); n != want || !slices.Equal(b, bytes) || !slices.Equal(heard, samples) {
			t.Errorf("Encode of %d all over: %v, %v, %v", x, n, b, heard)
		}
	}
}

// What holds everywhere: samples that are handed in stay as they are, their spare room too; answers are new memory.
func TestEncodeIsNew(t *testing.T) {
	for _, name := range []string{"noughts", "hum"} {
		for _, refresh := range []bool{false, true} {
			given := frameOf(signals()[name])
			want, bytes, samples := encode(coder.Begin(), given, refresh)
			l, spare := roomy(given, 77)
			s, b, heard := encoded(t, coder.Begin(), l, refresh)
			_, again, once := encoded(t, coder.Begin(), l, refresh)
			if !slices.Equal(l, given) || !slices.Equal(spare, []int{77, 77, 77}) {
				t.Errorf("Encode of %s: the samples have changed", name)
			}
			spoil(b, 3)
			spoil(heard, 12345)
			spoil(l, 4)
			if s != want || !slices.Equal(again, bytes) || !slices.Equal(once, samples) {
				t.Errorf("Encode of %s: the answers share memory", name)
			}
		}
	}
}
