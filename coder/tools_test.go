package coder_test

import (
	"fmt"
	"math"
	"slices"
	"testing"

	"voxsat/api"
	"voxsat/coder"
	"voxsat/conceal"
	"voxsat/pack"
	"voxsat/quant"
)

const most, least = math.MaxInt64, math.MinInt64

// number is one of a memory, and its bounds.
type number struct {
	name       string
	at         *int
	low, bound int
}

// numbers are those of a memory that chapter 11 names bounds of.
func numbers(m *api.Memory) []number {
	l := []number{
		{"Gain", &m.Gain, 0, 32767},
		{"Pitch", &m.Pitch, 0, 18022},
		{"Lag", &m.Lag, 20, 79},
		{"Erased", &m.Erased, 0, 6},
		{"Seed", &m.Seed, 0, 65535},
	}
	for i := range m.Refl {
		l = append(l, number{fmt.Sprint("Refl ", i), &m.Refl[i], -31000, 31000})
	}
	for i := range m.Past {
		l = append(l, number{fmt.Sprint("Past ", i), &m.Past[i], -32768, 32767})
	}
	for i := range m.Exc {
		l = append(l, number{fmt.Sprint("Exc ", i), &m.Exc[i], -32768, 32767})
	}
	return l
}

// mixed is a function that tells numbers from low to bound, the same ones for the same seed.
func mixed(seed uint32) func(low, bound int) int {
	return func(low, bound int) int {
		seed = seed*1664525 + 1013904223
		return low + int(seed>>8)%(bound-low+1)
	}
}

// someMemory is a good memory, the same one for the same seed: of each four the second and third are softer ones.
func someMemory(seed uint32) api.Memory {
	m := api.Memory{Silence: seed%2 == 1}
	next := mixed(seed)
	for _, x := range numbers(&m) {
		*x.at = next(x.low, x.bound)
	}
	if seed%4 == 1 || seed%4 == 2 {
		soften(m.Refl[:], 3)
		soften(m.Past[:], 50)
		soften(m.Exc[:], 50)
	}
	return m
}

func soften(l []int, by int) {
	for i := range l {
		l[i] /= by
	}
}

// someSession is a session that speaks, the same one for the same seed.
func someSession(seed uint32) api.Encoder {
	s := api.Encoder{Memory: someMemory(seed)}
	next := mixed(seed + 77)
	for _, l := range [][]int{s.High.X[:], s.High.Y[:], s.Input[:]} {
		for i := range l {
			l[i] = next(-32768, 32767)
		}
	}
	if seed%4 == 1 || seed%4 == 2 {
		soften(s.High.X[:], 50)
		soften(s.High.Y[:], 50)
		soften(s.Input[:], 50)
	}
	return s
}

// somePacket is a good packet, the same one for the same seed; of each five one is a refresh, one silence.
func somePacket(seed uint32) api.Packet {
	next := mixed(seed + 99)
	p := api.Packet{Kind: max(int(seed%5)-2, 0)}
	for i := range p.Refl {
		p.Refl[i] = next(0, 1<<quant.Width(i)-1)
	}
	for i := range p.Subs {
		s := &p.Subs[i]
		s.Lag, s.Pitch, s.Signs, s.Level = next(0, 59), next(0, 7), next(0, 15), next(0, 31)
		for j := range s.Index {
			s.Index[j] = next(0, 9)
		}
	}
	return p
}

// smallest is the memory whose numbers are all as small as they may be.
func smallest() api.Memory {
	var m api.Memory
	for _, x := range numbers(&m) {
		*x.at = x.low
	}
	return m
}

// greatest is the memory whose numbers are all as great as they may be.
func greatest() api.Memory {
	m := api.Memory{Silence: true}
	for _, x := range numbers(&m) {
		*x.at = x.bound
	}
	return m
}

// badMemories are memories that are not good, a single number of each being out of its bounds.
func badMemories() []api.Memory {
	var l []api.Memory
	for _, m := range []api.Memory{conceal.Fresh(), greatest(), someMemory(4)} {
		for i, x := range numbers(&m) {
			for _, n := range []int{x.low - 1, x.bound + 1, most, least} {
				turned := m
				*numbers(&turned)[i].at = n
				l = append(l, turned)
			}
		}
	}
	return append(l, api.Memory{})
}

// notSamples are numbers that are no samples, some only just.
func notSamples() []int {
	return []int{32768, -32769, 65535, 65536, -65536, 1 << 31, 1 << 32, -1 << 32, 1<<32 + 1, most, least}
}

func packed(t *testing.T, p api.Packet) []byte {
	t.Helper()
	b, errno := pack.Pack(p)
	if errno != api.OK {
		t.Fatalf("Pack(%v): %d", p, errno)
	}
	return b
}

func unpacked(t *testing.T, b []byte) api.Packet {
	t.Helper()
	p, errno := pack.Unpack(b)
	if errno != api.OK {
		t.Fatalf("Unpack(%v): %d", b, errno)
	}
	return p
}

// encoded is Encode of what it must not refuse.
func encoded(t *testing.T, s api.Encoder, l []int, refresh bool) (api.Encoder, []byte, []int) {
	t.Helper()
	n, b, heard, errno := coder.Encode(s, l, refresh)
	if errno != api.OK || len(b) != 15 || len(heard) != 80 {
		t.Fatalf("Encode: %d bytes, %d samples, %d", len(b), len(heard), errno)
	}
	return n, b, heard
}

// decoded is Decode of what it must not refuse.
func decoded(t *testing.T, m api.Memory, b []byte) (api.Memory, []int) {
	t.Helper()
	n, l, errno := coder.Decode(m, b)
	if errno != api.OK || len(l) != 80 {
		t.Fatalf("Decode: %d samples, %d", len(l), errno)
	}
	return n, l
}

// erased is Erase of what it must not refuse.
func erased(t *testing.T, m api.Memory) (api.Memory, []int) {
	t.Helper()
	n, l, errno := coder.Erase(m)
	if errno != api.OK || len(l) != 80 {
		t.Fatalf("Erase: %d samples, %d", len(l), errno)
	}
	return n, l
}

// frameOf is the next eighty samples of a signal.
func frameOf(next func() int) []int {
	l := make([]int, 80)
	for i := range l {
		l[i] = next()
	}
	return l
}

// counted is a signal by the running numbers of its samples.
func counted(at func(i int) int) func() int {
	i := -1
	return func() int {
		i++
		return at(i)
	}
}

// repeated is a signal of the same length numbers over and over.
func repeated(length, size int) func() int {
	next := mixed(uint32(length))
	l := make([]int, length)
	for i := range l {
		l[i] = next(-size, size)
	}
	return counted(func(i int) int { return l[i%length] })
}

// signals are kinds of samples that a session may be given; each call begins them anew.
func signals() map[string]func() int {
	x, y := 0, 0
	noise, breath, growing := mixed(1), mixed(8), mixed(3)
	return map[string]func() int{
		"noughts": counted(func(i int) int { return 0 }),
		"beats": counted(func(i int) int {
			x = x * 7 / 8
			if i%57 == 0 {
				x += 9000
			}
			if i%3 == 0 {
				return -x / 2
			}
			return x
		}),
		"hush and beats": counted(func(i int) int {
			y = y * 3 / 4
			if i%47 == 0 && i%500 >= 200 {
				y += 20000
			}
			return y * (1 - 2*(i%2))
		}),
		"noise":      func() int { return noise(-32768, 32767) },
		"breath":     func() int { return breath(-4, 4) },
		"growing":    counted(func(i int) int { return growing(-min(20*i, 32767), min(20*i, 32767)) }),
		"square":     counted(func(i int) int { return 65535*(i/25%2) - 32768 }),
		"slow wave":  counted(func(i int) int { return 600*max(i%90-45, 45-i%90) - 13000 }),
		"fast wave":  counted(func(i int) int { return 40000*(i%2) - 20000 }),
		"steady":     counted(func(i int) int { return 30000 }),
		"ticks":      counted(func(i int) int { return 32767 * max(1-i%131, 0) }),
		"tone":       counted(func(i int) int { return [...]int{12000, 6000, -6000, -12000, -6000, 6000}[i%6] }),
		"hum":        repeated(41, 3000),
		"loud hum":   repeated(73, 32767),
		"loud short": repeated(23, 32767),
	}
}

// digest is a number of many: what is worked out apart from the program, but too long to be written down here, is held against it.
type digest uint64

func (d *digest) add(l ...int) {
	for _, x := range l {
		*d = (*d ^ digest(uint64(x))) * 1099511628211
	}
}

func (d *digest) addBytes(b []byte) {
	for _, x := range b {
		d.add(int(x))
	}
}

func (d *digest) addMemory(m api.Memory) {
	d.add(m.Refl[:]...)
	d.add(m.Past[:]...)
	d.add(m.Exc[:]...)
	d.add(m.Gain, m.Pitch, m.Lag, m.Erased, m.Seed)
	if m.Silence {
		d.add(1)
	} else {
		d.add(0)
	}
}

func (d *digest) addSession(s api.Encoder) {
	d.add(s.High.X[:]...)
	d.add(s.High.Y[:]...)
	d.add(s.Input[:]...)
	d.addMemory(s.Memory)
}

// roomy is a list with spare room behind it, and that room.
func roomy[T any](l []T, spare T) ([]T, []T) {
	all := append(slices.Clone(l), spare, spare, spare)
	return all[:len(l)], all[len(l):]
}

func spoil[T any](l []T, with T) {
	l = l[:cap(l)]
	for i := range l {
		l[i] = with
	}
}
