package coder_test

import (
	"slices"

	"voxsat/api"
	"voxsat/conceal"
	"voxsat/front"
	"voxsat/gain"
	"voxsat/lpc"
	"voxsat/pack"
	"voxsat/pitch"
	"voxsat/pulses"
	"voxsat/quant"
	"voxsat/synth"
)

// What the chapter says, in steps of the tests' own on the layers below; sessions that were worked out apart from the program hold these layers, too.

func stop(x int) int { return min(max(x, -32768), 32767) }

// between is the predictor so many quarters of the way from one frame's reflections to the next one's.
func between(was, now [8]int, quarters int) [9]int {
	var k [8]int
	for i := range k {
		k[i] = ((4-quarters)*was[i] + quarters*now[i]) / 4
	}
	a, _ := lpc.Direct(k)
	return a
}

// excite is the excitation of a half that is no silence, which the memory keeps.
func excite(m *api.Memory, s api.Sub) []int {
	m.Lag = 20 + s.Lag
	m.Pitch = [...]int{0, 3277, 6554, 9830, 12452, 14746, 16384, 18022}[s.Pitch]
	m.Gain, _ = gain.Level(s.Level)
	exc := make([]int, 40)
	for track, place := range s.Index {
		exc[track+4*place] = m.Gain * (2*(s.Signs>>track&1) - 1)
	}
	for i := range exc {
		exc[i] = stop((m.Exc[80-m.Lag+i%m.Lag]*m.Pitch+8192)>>14 + exc[i])
	}
	m.Exc = [80]int(slices.Concat(m.Exc[40:], exc))
	return exc
}

// hush is the excitation of a half in which nobody speaks, which the memory keeps.
func hush(m *api.Memory) []int {
	exc := make([]int, 40)
	for i := range exc {
		m.Seed, exc[i] = gain.Noise(m.Seed, 8)
	}
	m.Exc = [80]int(slices.Concat(m.Exc[40:], exc))
	return exc
}

// speak is the samples of an excitation.
func speak(m *api.Memory, a [9]int, exc []int) []int {
	l, past, _ := synth.Make(a, m.Past, exc)
	m.Past = past
	return l
}

// play is P12.3 of a good memory and a good packet.
func play(m api.Memory, p api.Packet) (api.Memory, []int) {
	if p.Kind == api.KindRefresh {
		m = api.Memory{Lag: 20, Seed: 21845}
	}
	now, _ := quant.Values(p.Refl)
	first, second := between(m.Refl, now, 2), between(m.Refl, now, 4)
	var l []int
	if p.Kind == api.KindSilence {
		l = speak(&m, first, hush(&m))
		l = append(l, speak(&m, second, hush(&m))...)
	} else {
		l = speak(&m, first, excite(&m, p.Subs[0]))
		l = append(l, speak(&m, second, excite(&m, p.Subs[1]))...)
	}
	m.Refl, m.Erased, m.Silence = now, 0, p.Kind == api.KindSilence
	return m, l
}

// lose is P12.5 of a good memory.
func lose(m api.Memory) (api.Memory, []int) {
	a, _ := lpc.Direct(m.Refl)
	for i, f := 0, 32768; i < 9; i++ {
		a[i] = (a[i]*f + 16384) >> 15
		f = (f*32440 + 16384) >> 15
	}
	m, exc, _ := conceal.Erased(m, 0)
	l := speak(&m, a, exc)
	m, exc, _ = conceal.Erased(m, 1)
	return m, append(l, speak(&m, a, exc)...)
}

// find is P12.7's numbers of a half.
func find(m api.Memory, a [9]int, samples []int) api.Sub {
	ring, _ := synth.Ring(a, 40)
	fold := func(l []int) []int {
		out := make([]int, 40)
		for n := range out {
			sum := 2048
			for i := 0; i <= n; i++ {
				sum += ring[i] * l[n-i]
			}
			out[n] = stop(sum >> 12)
		}
		return out
	}
	still := m
	target := speak(&still, a, make([]int, 40))
	for i, x := range target {
		target[i] = stop(samples[i] - x)
	}
	lag, c, e, _ := pitch.Pick(m.Exc, fold, target)
	s := api.Sub{Lag: lag - 20, Pitch: pitch.Nearest(c, e)}
	g, _ := pitch.Gain(s.Pitch)
	past, _ := pitch.Past(m.Exc, lag)
	for i, x := range fold(past) {
		target[i] = stop(target[i] - stop((x*g+8192)>>14))
	}
	d, _ := pulses.Target(target, ring)
	s.Index, s.Signs, _ = pulses.Few(d, ring)
	ones, _ := pulses.Build(s.Index, s.Signs, 4096)
	c, e = 0, 0
	for i, x := range fold(ones) {
		c += target[i] * x
		e += x * x
	}
	s.Level = gain.One(4096*c, e)
	return s
}

// encode is P12.6 of a good session and eighty samples.
func encode(s api.Encoder, l []int, refresh bool) (api.Encoder, []byte, []int) {
	high, remembered, _ := front.High(s.High, l)
	s.High = remembered
	s.Input = [120]int(slices.Concat(s.Input[80:], high))
	sums, _, _ := front.Correlate(s.Input[:])
	k, _, _ := lpc.Levinson(sums)
	var p api.Packet
	p.Refl, _ = quant.All(k)
	squares := 0
	for _, x := range high {
		squares += x * x
	}
	if squares < 1280 {
		p.Kind = api.KindSilence
	}
	m := s.Memory
	if refresh {
		p.Kind = api.KindRefresh
		m = api.Memory{Lag: 20, Seed: 21845}
	}
	if p.Kind != api.KindSilence {
		now, _ := quant.Values(p.Refl)
		a := between(m.Refl, now, 2)
		p.Subs[0] = find(m, a, high[:40])
		speak(&m, a, excite(&m, p.Subs[0]))
		p.Subs[1] = find(m, between(m.Refl, now, 4), high[40:])
	}
	b, _ := pack.Pack(p)
	m, heard := play(s.Memory, p)
	s.Memory = m
	return s, b, heard
}
