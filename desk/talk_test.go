package desk_test

import (
	"slices"
	"testing"

	"voxsat/api"
	"voxsat/coder"
	"voxsat/conceal"
	"voxsat/desk"
)

// P13.3: the first frames of a voice, the third one a refresh; numbers that were worked out apart from the program.
func TestEncodeAndDecode(t *testing.T) {
	d, frames := opened(t, 3, 4), beats(3)
	for i, x := range []struct {
		b    []byte
		samp []int
	}{
		{[]byte{33, 145, 17, 120, 112, 0, 32, 0, 249, 149, 186, 161, 229, 160, 147}, []int{
			0, 5311, 5570, -5856, 6208, 2552, -3293, 2940, 209, -865, 73, 564, -147, -800, 776, -206, -478, 469, -123, -159,
			103, 51, -75, -31, 112, -68, -28, 74, -38, -13, 26, -4, -13, 6, 10, -13, 2, 8, -8, 1,
			6, -4, -2, 4, -1, -3, 3, 1, -3, 2, 2, -3, 1, 2, -2, 2435, 688, -708, 7331, 4942,
			-4515, 4205, 3913, -4182, 3170, 3111, -3481, 929, -64, -2606, 267, 234, -989, -747, 255, -152, -990, 576, 214, -1006,
		}},
		{[]byte{33, 145, 49, 120, 114, 93, 33, 0, 51, 139, 129, 9, 13, 32, 26}, []int{
			510, -807, -1009, -465, -737, -144, -429, -305, 28, -443, 29, 113, -263, 119, 49, -119, 86, 32, -17, 8,
			29, 22, -41, 37, 27, -54, 34, 20, -43, 21, 15, -25, 2440, 666, -1850, 6949, 6260, -5023, 3554, 4640,
			-3003, 2824, 242, -2956, 1016, 129, -2113, -783, 482, -2320, -1455, -99, -1593, -714, 284, -1847, -849, -647, -1086, -10,
			-324, -320, -72, -231, 117, -61, -19, 181, -133, 60, 125, -92, 70, 43, -42, 30, 9, 4, -11, 3,
		}},
		{[]byte{97, 145, 17, 120, 112, 0, 102, 103, 121, 149, 187, 196, 53, 128, 84}, []int{
			0, 0, 0, 0, 0, 0, 0, 0, 0, 0, 0, 0, 5311, 5570, -5856, 6208, 2552, -3293, 2940, 209,
			-865, 73, 564, -147, -800, 776, -206, -478, 469, -123, -159, 103, 51, -75, -31, 112, -68, -28, 74, -38,
			-11, 46, -10, -19, 20, 12, -22, 7, 21, -23, 0, 22, -18, -4, 18, -11, -7, 13, -4, -9,
			8, 1, -9, 4, 4, -8, 1, 5, -2441, 4934, 5482, -5635, 5138, 5052, -3207, 2412, 2259, -1821, 366, 1827,
		}},
	} {
		c := api.Call{Kind: api.CallEncode, Voice: 3, Samp: frames[i], Refresh: i == 2}
		if a := d.Do(c); !same(a, api.Answer{Voice: 3, Bytes: x.b, Samp: x.samp}) {
			t.Errorf("spoken, frame %d: %v; wanted %v", i, a, x)
		}
		if a := d.Do(decode(4, x.b)); !same(a, api.Answer{Voice: 4, Samp: x.samp}) {
			t.Errorf("heard, frame %d: %v; wanted %v", i, a, x.samp)
		}
	}
}

// P13.3 and the first example of the whole: noughts at first are silence, and heard as a soft noise; worked out apart from the program.
func TestSilence(t *testing.T) {
	noise := []int{
		-8, -3, 5, 5, -3, -4, -3, -5, 5, 6, 3, -7, -7, -8, -8, 1, 8, -2, -4, 0,
		-6, -6, -3, -6, 1, 2, -4, -4, -8, 1, 0, 2, -7, 1, 6, -8, -7, -6, -6, -4,
		5, -6, -1, -1, -3, 0, -4, 2, -4, -7, 1, -7, 5, -8, 3, 3, 3, -3, -4, -7,
		0, -5, 2, 0, 3, 4, -7, 2, 1, 7, -6, 4, 1, -1, 3, 5, 5, -5, 7, -4,
	}
	d := opened(t, 0)
	if a := d.Do(encode(0, make([]int, 80))); !same(a, api.Answer{Bytes: silence(), Samp: noise}) {
		t.Errorf("noughts, spoken: %v", a)
	}
	if a := d.Do(decode(0, silence())); !same(a, api.Answer{Samp: noise}) {
		t.Errorf("noughts, heard: %v", a)
	}
}

// P13.3: of a session at first that hears nothing there is nothing to make up.
func TestEraseAtFirst(t *testing.T) {
	if a := opened(t, 2).Do(erase(2)); !same(a, api.Answer{Voice: 2, Samp: make([]int, 80)}) {
		t.Errorf("lost at first: %v", a)
	}
}

// P13.3: each end goes on from frame to frame, as the coder's own calls with what they answered last.
func TestEndsGoOn(t *testing.T) {
	d, s, m := opened(t, 9), coder.Begin(), conceal.Fresh()
	for i, l := range beats(12) {
		n, b, heard, _ := coder.Encode(s, l, i == 8)
		s = n
		c := encode(9, l)
		c.Refresh = i == 8
		if a := d.Do(c); !same(a, api.Answer{Voice: 9, Bytes: b, Samp: heard}) {
			t.Fatalf("spoken, frame %d: %v; wanted %v, %v", i, a, b, heard)
		}
		c = decode(9, b)
		next, samp, _ := coder.Decode(m, b)
		if i == 5 || i == 6 {
			c = erase(9)
			next, samp, _ = coder.Erase(m)
		}
		m = next
		if a := d.Do(c); !same(a, api.Answer{Voice: 9, Samp: samp}) {
			t.Fatalf("heard, frame %d: %v; wanted %v", i, a, samp)
		}
	}
}

// P13.1: the end that speaks and the one that listens know nothing of each other.
func TestEndsAreTwo(t *testing.T) {
	both, speaks, listens := opened(t, 1), opened(t, 1), opened(t, 1)
	for i := range 4 {
		b := done(t, opened(t, 8), encode(8, wave(60+i, 12000))).Bytes
		for _, x := range []struct {
			d *desk.Desk
			c api.Call
		}{{speaks, encode(1, wave(i, 8000))}, {listens, decode(1, b)}, {listens, erase(1)}, {speaks, refresh(1, wave(90+i, 400))}} {
			if got, want := done(t, both, x.c), done(t, x.d, x.c); !same(got, want) {
				t.Errorf("round %d, kind %d: %v; wanted %v", i, x.c.Kind, got, want)
			}
		}
	}
}

// P13.1: sessions know nothing of each other, in whatever order they are called.
func TestSessionsAreApart(t *testing.T) {
	voices := []int{4, 0, 31, 1 << 40}
	d := opened(t, voices...)
	alone := map[int]*desk.Desk{}
	for _, voice := range voices {
		alone[voice] = opened(t, voice)
	}
	for i := range 5 {
		for j := range voices {
			voice := voices[(i+j)%len(voices)]
			l := wave(100*i+j, 500*(j+1))
			b := done(t, opened(t, 8), refresh(8, l)).Bytes
			for _, c := range []api.Call{encode(voice, l), decode(voice, b), erase(voice)} {
				if got, want := done(t, d, c), done(t, alone[voice], c); !same(got, want) {
					t.Errorf("session %d, round %d, kind %d: %v; wanted %v", voice, i, c.Kind, got, want)
				}
			}
		}
	}
}

// P13.3: what a kind does not ask for may be anything.
func TestWhatIsNotAsked(t *testing.T) {
	d, twin := opened(t, 2), opened(t, 2)
	b := done(t, opened(t, 8), encode(8, wave(5, 9000))).Bytes
	for _, x := range []struct{ c, plain api.Call }{
		{api.Call{Kind: api.CallEncode, Samp: wave(1, 9000), Bytes: []byte{1, 2}}, encode(2, wave(1, 9000))},
		{api.Call{Kind: api.CallDecode, Bytes: b, Samp: []int{most, least}, Refresh: true}, decode(2, b)},
		{api.Call{Kind: api.CallErase, Bytes: []byte{1}, Samp: []int{most}, Refresh: true}, erase(2)},
		{api.Call{Kind: api.CallErase, Bytes: b, Samp: wave(2, 9000)}, erase(2)},
		{api.Call{Kind: api.CallEncode, Samp: wave(3, 9000), Bytes: b, Refresh: true}, refresh(2, wave(3, 9000))},
		{api.Call{Kind: api.CallDecode, Bytes: b, Samp: wave(4, 9000)}, decode(2, b)},
		{api.Call{Kind: api.CallClose, Bytes: []byte{1}, Samp: []int{most}, Refresh: true}, shut(2)},
		{api.Call{Kind: api.CallOpen, Bytes: []byte{1}, Samp: []int{most}, Refresh: true}, open(2)},
	} {
		x.c.Voice = 2
		if got, want := done(t, d, x.c), done(t, twin, x.plain); !same(got, want) {
			t.Errorf("%v: %v; wanted %v", x.c, got, want)
		}
	}
}

// turned is a packet with another number at a place.
func turned(b []byte, at int, to byte) []byte {
	b = slices.Clone(b)
	b[at] ^= to
	return b
}

// wrong are calls of a session that the coder refuses, and its errors.
func wrong(voice int) map[api.Errno][]api.Call {
	l := wave(1, 9000)
	high, low := slices.Clone(l), slices.Clone(l)
	high[79], low[0] = 32768, -32769
	// Packets whose sum goes with them, but of a kind that is none, with a bit set behind the parity, and with another parity.
	kind, form, parity := silence(), silence(), silence()
	kind[0], kind[14] = 223, 168
	form[13], form[14] = 33, 105
	parity[13], parity[14] = 0, 72
	return map[api.Errno][]api.Call{
		api.ErrSize: {
			encode(voice, nil), encode(voice, l[:79]), encode(voice, append(slices.Clone(l), 0)), encode(voice, append(slices.Clone(high), 0)), refresh(voice, []int{}),
			decode(voice, nil), decode(voice, silence()[:14]), decode(voice, append(silence(), 0)), decode(voice, []byte{}),
		},
		api.ErrRange: {encode(voice, high), encode(voice, low), refresh(voice, high), decode(voice, kind)},
		api.ErrForm:  {decode(voice, form), decode(voice, parity)},
		api.ErrSum:   {decode(voice, turned(silence(), 14, 1)), decode(voice, turned(silence(), 0, 128)), decode(voice, turned(silence(), 7, 3))},
	}
}

// P13.2, P13.3: what the coder refuses is refused with its error and nothing else, and both ends go on as if it had not been.
func TestTalkRefuses(t *testing.T) {
	for _, voice := range []int{0, 12} {
		d, twin := opened(t, 0, 12), opened(t, 0, 12)
		for range 3 {
			for errno, calls := range wrong(voice) {
				for _, c := range calls {
					refused(t, d, c, errno)
				}
			}
			for _, asked := range []int{0, 12} {
				if got, want := talk(t, d, asked), talk(t, twin, asked); !slices.EqualFunc(got, want, same) {
					t.Errorf("session %d, behind refused calls of %d: %v; wanted %v", asked, voice, got, want)
				}
				some(t, d, asked)
				some(t, twin, asked)
			}
		}
	}
}

// P13.2: refused calls of all kinds change nothing, be they of other sessions, of none, of other kinds.
func TestRefusedChangesNothing(t *testing.T) {
	d, twin := thirtyTwo(t), thirtyTwo(t)
	some(t, d, 30)
	some(t, twin, 30)
	for _, voice := range []int{30, 31, 32, -1, most} {
		refused(t, d, full(0, voice), api.ErrKind)
		refused(t, d, full(6, voice), api.ErrKind)
		if d.Do(full(api.CallOpen, voice)).Code == api.OK {
			t.Errorf("opened: %d", voice)
		}
		if voice == 30 || voice == 31 {
			continue
		}
		for _, kind := range kinds()[1:] {
			refused(t, d, full(kind, voice), api.ErrNone)
		}
	}
	for voice := range 32 {
		if got, want := talk(t, d, voice), talk(t, twin, voice); !slices.EqualFunc(got, want, same) {
			t.Errorf("session %d: %v; wanted %v", voice, got, want)
		}
	}
}

// Examples 2 to 4 of the whole, by a desk: all frames come, some are lost or turned, a refresh brings the ends together, six lost on end leave nothing.
func TestExamples(t *testing.T) {
	d := opened(t, 1, 2)
	for i, l := range beats(14) {
		c := encode(1, l)
		c.Refresh = i == 9
		a := done(t, d, c)
		if i == 4 || i == 5 {
			refused(t, d, decode(2, turned(a.Bytes, i, 1)), api.ErrSum)
			done(t, d, erase(2))
			continue
		}
		if heard := done(t, d, decode(2, a.Bytes)); slices.Equal(heard.Samp, a.Samp) != (i < 4 || i > 8) {
			t.Errorf("frame %d: %v is heard; %v was told", i, heard.Samp, a.Samp)
		}
	}
	for range 6 {
		done(t, d, erase(2))
	}
	// Nothing is made up any more; what is left is how the filter rounds.
	if a := done(t, d, erase(2)); slices.Max(a.Samp) > 1 || slices.Min(a.Samp) < -1 {
		t.Errorf("a seventh frame that is lost: %v", a.Samp)
	}
}

// What holds everywhere: lists that are handed in are neither changed nor kept, and answers are memory that nothing else knows of.
func TestAnswersAreNew(t *testing.T) {
	d, twin := opened(t, 1), opened(t, 1)
	var answers, wanted []api.Answer
	for i, l := range beats(6) {
		samp, spare := roomy(l, 7777)
		a, want := done(t, d, encode(1, samp)), done(t, twin, encode(1, l))
		if !slices.Equal(samp, l) || !slices.Equal(spare, []int{7777, 7777, 7777}) {
			t.Errorf("frame %d: samples became %v, %v", i, samp, spare)
		}
		spoil(samp, -5555)
		b, room := roomy(want.Bytes, 77)
		heard, hoped := done(t, d, decode(1, b)), done(t, twin, decode(1, want.Bytes))
		if !slices.Equal(b, want.Bytes) || !slices.Equal(room, []byte{77, 77, 77}) {
			t.Errorf("frame %d: bytes became %v, %v", i, b, room)
		}
		spoil(b, 55)
		lost, made := done(t, d, erase(1)), done(t, twin, erase(1))
		answers, wanted = append(answers, a, heard, lost), append(wanted, want, hoped, made)
	}
	for i, a := range answers {
		if !same(a, wanted[i]) {
			t.Errorf("answer %d: %v; wanted %v", i, a, wanted[i])
		}
		spoil(a.Bytes, 33)
		spoil(a.Samp, 3333)
	}
	if got, want := talk(t, d, 1), talk(t, twin, 1); !slices.EqualFunc(got, want, same) {
		t.Errorf("behind spoiled answers: %v; wanted %v", got, want)
	}
}
