package desk_test

import (
	"math"
	"slices"
	"testing"

	"voxsat/api"
	"voxsat/desk"
)

const most, least = math.MaxInt64, math.MinInt64

// kinds are all kinds of calls.
func kinds() []int {
	return []int{api.CallOpen, api.CallEncode, api.CallDecode, api.CallErase, api.CallClose}
}

// otherKinds are numbers that are no kinds, some only just.
func otherKinds() []int {
	return []int{0, 6, 7, -1, -2, -5, 257, 1<<32 + 1, 1<<32 + 5, -1<<32 + 2, 1<<63 - 1, -1 << 63}
}

func open(voice int) api.Call  { return api.Call{Kind: api.CallOpen, Voice: voice} }
func shut(voice int) api.Call  { return api.Call{Kind: api.CallClose, Voice: voice} }
func erase(voice int) api.Call { return api.Call{Kind: api.CallErase, Voice: voice} }
func encode(voice int, l []int) api.Call {
	return api.Call{Kind: api.CallEncode, Voice: voice, Samp: l}
}
func refresh(voice int, l []int) api.Call {
	return api.Call{Kind: api.CallEncode, Voice: voice, Samp: l, Refresh: true}
}
func decode(voice int, b []byte) api.Call {
	return api.Call{Kind: api.CallDecode, Voice: voice, Bytes: b}
}

// full is a call that has all there is: eighty samples, fifteen bytes of a packet, a refresh.
func full(kind, voice int) api.Call {
	return api.Call{Kind: kind, Voice: voice, Refresh: true, Samp: wave(voice, 9000), Bytes: silence()}
}

// silence is the packet of a frame of noughts at first; chapter 10 tells its bits.
func silence() []byte { return []byte{159, 125, 239, 119, 108, 0, 0, 0, 0, 0, 0, 0, 0, 32, 104} }

// mixed is a function that tells numbers from low to bound, the same ones for the same seed.
func mixed(seed uint32) func(low, bound int) int {
	return func(low, bound int) int {
		seed = seed*1664525 + 1013904223
		return low + int(seed>>8)%(bound-low+1)
	}
}

// wave is eighty samples, the same ones for the same seed.
func wave(seed, size int) []int {
	next := mixed(uint32(seed))
	l := make([]int, 80)
	for i := range l {
		l[i] = next(-size, size)
	}
	return l
}

// beats are the frames of a voice, from its first one on.
func beats(many int) [][]int {
	frames, x := make([][]int, many), 0
	for i := range 80 * many {
		x = x * 7 / 8
		if i%57 == 0 {
			x += 9000
		}
		y := x
		if i%3 == 0 {
			y = -x / 2
		}
		frames[i/80] = append(frames[i/80], y)
	}
	return frames
}

func same(a, b api.Answer) bool {
	return a.Code == b.Code && a.Voice == b.Voice && slices.Equal(a.Bytes, b.Bytes) && slices.Equal(a.Samp, b.Samp)
}

// refused checks that a call gets this error and the call's Voice, and nothing else, and that as many sessions are open as were.
func refused(t *testing.T, d *desk.Desk, c api.Call, want api.Errno) {
	t.Helper()
	many := d.Many()
	if a := d.Do(c); !same(a, api.Answer{Code: want, Voice: c.Voice}) {
		t.Errorf("Do(%v): %v; wanted %d and nothing else", c, a, want)
	}
	if d.Many() != many {
		t.Errorf("Do(%v), refused: %d are open, and were %d", c, d.Many(), many)
	}
}

// done is the answer to a call that must not be refused.
func done(t *testing.T, d *desk.Desk, c api.Call) api.Answer {
	t.Helper()
	a := d.Do(c)
	samples, bytes := 80, 0
	switch c.Kind {
	case api.CallOpen, api.CallClose:
		samples = 0
	case api.CallEncode:
		bytes = 15
	}
	if a.Code != api.OK || a.Voice != c.Voice || len(a.Samp) != samples || len(a.Bytes) != bytes {
		t.Fatalf("Do(%v): %v; wanted %d samples, %d bytes", c, a, samples, bytes)
	}
	return a
}

// opened is a desk with these sessions.
func opened(t *testing.T, voices ...int) *desk.Desk {
	t.Helper()
	d := desk.New()
	for _, voice := range voices {
		done(t, d, open(voice))
	}
	return d
}

// talk is what a session answers to calls that show what both of its ends remember, and that a new one answers otherwise than an old one.
func talk(t *testing.T, d *desk.Desk, voice int) []api.Answer {
	t.Helper()
	var l []api.Answer
	for _, c := range []api.Call{erase(voice), encode(voice, wave(77, 3000)), decode(voice, silence()), encode(voice, make([]int, 80)), erase(voice)} {
		l = append(l, done(t, d, c))
	}
	return l
}

// some is what was said and heard ahead, so that a session is none at first any more.
func some(t *testing.T, d *desk.Desk, voice int) {
	t.Helper()
	for i := range 3 {
		b := done(t, d, encode(voice, wave(voice+i, 9000))).Bytes
		done(t, d, decode(voice, b))
	}
}

// roomy is a list with spare room behind it, and that room.
func roomy[T any](l []T, spare T) ([]T, []T) {
	all := append(slices.Clone(l), spare, spare, spare)
	return all[:len(l)], all[len(l):]
}

func spoil[T any](l []T, with T) {
	l = l[:cap(l)]
	for i := range l {
		l[i] = with
	}
}
