package pack_test

import (
	"slices"
	"testing"

	"voxsat/api"
	"voxsat/pack"
)

// refused holds that bytes are answered with an error, and with noughts beside it.
func refused(t *testing.T, what string, b []byte, want api.Errno) {
	t.Helper()
	if p, errno := pack.Unpack(b); p != (api.Packet{}) || errno != want {
		t.Errorf("Unpack, %s, %08b: %v, %d; wanted %d", what, b, p, errno, want)
	}
}

// P10.4: bytes whose packets were worked out by hand.
func TestUnpackByHand(t *testing.T) {
	for _, x := range byHand() {
		b := append(bytesOf(x.bits), x.sum)
		if p, errno := pack.Unpack(b); p != x.p || errno != api.OK {
			t.Errorf("Unpack(%08b): %v, %d; wanted %v", b, p, errno, x.p)
		}
	}
}

// P10.4: of whatever packet is packed the bytes are unpacked as it.
func TestUnpackOfPacked(t *testing.T) {
	for seed := range uint32(20000) {
		p := some(seed)
		if seed == 0 {
			p = greatest()
		}
		if q, errno := pack.Unpack(right(p)); q != p || errno != api.OK {
			t.Fatalf("Unpack(%08b): %v, %d; wanted %v", right(p), q, errno, p)
		}
		b, _ := pack.Pack(p)
		if q, errno := pack.Unpack(b); q != p || errno != api.OK {
			t.Fatalf("Unpack of Pack(%v): %v, %d", p, q, errno)
		}
	}
}

// P10.4: each number at all that its bits hold, with either parity and with each of the last bits set: the error that is named first.
func TestUnpackOfEach(t *testing.T) {
	for _, p := range []api.Packet{{}, greatest(), some(6), some(7)} {
		for i, x := range numbers(&p) {
			for n := range 1 << x.width {
				q := p
				*numbers(&q)[i].at = n
				parity := ones(q.Kind, q.Subs[0].Lag, q.Subs[1].Lag) % 2
				if n > x.most {
					refused(t, x.name, packed(q, parity, 0), api.ErrRange)
					refused(t, x.name, packed(q, 1-parity, 0), api.ErrRange)
				} else {
					if got, errno := pack.Unpack(packed(q, parity, 0)); got != q || errno != api.OK {
						t.Errorf("Unpack, %s being %d: %v, %d; wanted %v", x.name, n, got, errno, q)
					}
					refused(t, x.name, packed(q, 1-parity, 0), api.ErrForm)
				}
				for spare := 1; spare < 32; spare++ {
					refused(t, x.name, packed(q, parity, spare), api.ErrForm)
					refused(t, x.name, packed(q, 1-parity, spare), api.ErrForm)
				}
			}
		}
	}
}

// P10.4: every other sum, whatever else is wrong.
func TestUnpackOfOtherSums(t *testing.T) {
	bad := greatest()
	bad.Kind = 3
	for _, b := range [][]byte{right(api.Packet{}), right(some(8)), packed(some(8), 0, 17), packed(some(8), 1, 0), packed(some(8), 0, 0), right(bad), packed(bad, 1, 31)} {
		for turn := 1; turn < 256; turn++ {
			c := slices.Clone(b)
			c[14] ^= byte(turn)
			refused(t, "another sum", c, api.ErrSum)
		}
	}
	refused(t, "noughts", make([]byte, 15), api.ErrSum)
	refused(t, "a sum from 0 on", append(slices.Repeat([]byte{16}, 14), 224), api.ErrSum)
}

// P10.4: no bit of fifteen bytes can be turned unnoticed.
func TestUnpackOfTurnedBits(t *testing.T) {
	for seed := range uint32(100) {
		b := right(some(seed))
		for i := range b {
			for bit := range 8 {
				c := slices.Clone(b)
				c[i] ^= 1 << bit
				refused(t, "a turned bit", c, api.ErrSum)
			}
		}
	}
}

// P10.4: too few and too many bytes, the sum being right or wrong.
func TestUnpackOfOtherSizes(t *testing.T) {
	refused(t, "nil", nil, api.ErrSize)
	refused(t, "nothing", []byte{}, api.ErrSize)
	whole := right(some(9))
	for n := range 15 {
		refused(t, "too few", whole[:n], api.ErrSize)
		refused(t, "too few", withSum(whole[:max(n-1, 0)])[:n], api.ErrSize)
	}
	for _, n := range []int{16, 17, 28, 29, 30, 31, 45, 255, 256, 271, 1 << 16, 1<<16 + 15} {
		long := append(slices.Clone(whole), make([]byte, n-15)...)
		refused(t, "too many", long, api.ErrSize)
		refused(t, "too many", withSum(long[:n-1]), api.ErrSize)
	}
}

// first is the chapter's errors in their order, of fourteen bytes whose sum is right: read bit by bit.
func first(b []byte) (api.Packet, api.Errno) {
	bit := func(at int) int { return int(b[at/8]) / (128 >> (at % 8)) % 2 }
	var p api.Packet
	good := true
	for _, x := range numbers(&p) {
		for i := range x.width {
			*x.at = *x.at*2 + bit(x.begin+i)
		}
		good = good && *x.at <= x.most
	}
	switch {
	case b[13]%32 != 0:
		return api.Packet{}, api.ErrForm
	case !good:
		return api.Packet{}, api.ErrRange
	case bit(106) != ones(p.Kind, p.Subs[0].Lag, p.Subs[1].Lag)%2:
		return api.Packet{}, api.ErrForm
	}
	return p, api.OK
}

// P10.4: fourteen bytes of any kind with their sum, and packed ones with up to three bits turned and their sum. What is answered without an error is packed as the same bytes again.
func TestUnpackOfAnyBytes(t *testing.T) {
	met := map[api.Errno]int{}
	check := func(b []byte) {
		t.Helper()
		b = withSum(b)
		want, wantErrno := first(b)
		p, errno := pack.Unpack(b)
		if p != want || errno != wantErrno {
			t.Fatalf("Unpack(%08b): %v, %d; wanted %v, %d", b, p, errno, want, wantErrno)
		}
		met[errno]++
		if errno != api.OK {
			return
		}
		if again, errno := pack.Pack(p); !slices.Equal(again, b) || errno != api.OK {
			t.Fatalf("Pack of Unpack(%08b): %08b, %d", b, again, errno)
		}
	}
	for seed := range uint32(20000) {
		next := mixed(seed)
		b := make([]byte, 14)
		for i := range b {
			b[i] = byte(next(256))
		}
		check(b)
		b[13] &= 224
		check(b)
		turned := right(some(seed))[:14]
		for range 3 {
			at := next(112)
			turned[at/8] ^= 128 >> (at % 8)
			check(turned)
		}
	}
	if met[api.OK] == 0 || met[api.ErrRange] == 0 || met[api.ErrForm] == 0 {
		t.Errorf("answers: %v", met)
	}
}

// What holds everywhere: bytes that are handed in are not changed, their spare room neither, nor does that tell in the answer.
func TestUnpackKeepsNothing(t *testing.T) {
	packet := some(10)
	room := append(right(packet), 1, 2, 3, 4, 5)
	was := slices.Clone(room)
	for range 2 {
		if p, errno := pack.Unpack(room[:15]); p != packet || errno != api.OK {
			t.Errorf("Unpack with spare room: %v, %d; wanted %v", p, errno, packet)
		}
		refused(t, "spare room", room[:14], api.ErrSize)
		refused(t, "spare room", room[:16], api.ErrSize)
	}
	room[14]++
	refused(t, "spare room", room[:15], api.ErrSum)
	room[14]--
	if !slices.Equal(room, was) {
		t.Error("Unpack changes what it is given")
	}
}
