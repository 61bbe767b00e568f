package coder

import (
	"voxsat/api"
	"voxsat/conceal"
	"voxsat/gain"
	"voxsat/lpc"
	"voxsat/pitch"
	"voxsat/pulses"
	"voxsat/quant"
	"voxsat/synth"
)

const (
	quarters = 4     // from one frame's reflections to the next one's
	narrower = 32440 // by which a lost frame's predictor is expanded: 32768 would leave it as it is
)

// The calls below take nothing but numbers of good memories and good packets: none of them refuses, so that their errors are not asked for.

type predictor = [api.Order + 1]int

// played is the memory behind a packet, and its samples.
func played(m api.Memory, p api.Packet) (api.Memory, []int) {
	m = ahead(m, p.Kind)
	now, _ := quant.Values(p.Refl)
	out := make([]int, 0, api.Frame)
	for half, a := range predictors(m.Refl, now) {
		var l []int
		m, l = playedHalf(m, a, p.Kind, p.Subs[half])
		out = append(out, l...)
	}
	m.Refl, m.Erased, m.Silence = now, 0, p.Kind == api.KindSilence
	return m, out
}

// madeUp is the memory behind a frame that is lost, and the samples in its place.
func madeUp(m api.Memory) (api.Memory, []int) {
	a, _ := lpc.Direct(m.Refl)
	a, _ = lpc.Expand(a, narrower)
	out := make([]int, 0, api.Frame)
	for half := range api.Subs {
		var exc, l []int
		m, exc, _ = conceal.Erased(m, half)
		m, l = spoken(m, a, exc)
		out = append(out, l...)
	}
	return m, out
}

// ahead is the memory that a frame of a kind begins with: a refresh forgets at both ends what they may not have in common.
func ahead(m api.Memory, kind int) api.Memory {
	if kind == api.KindRefresh {
		return conceal.Fresh()
	}
	return m
}

// predictors are those of a frame's halves: the second half has come all the way to the frame's own reflections.
func predictors(was, now [api.Order]int) [api.Subs]predictor {
	var l [api.Subs]predictor
	for half := range l {
		k, _ := lpc.Mix(was, now, (half+1)*quarters/api.Subs)
		l[half], _ = lpc.Direct(k)
	}
	return l
}

// playedHalf leaves the memory's reflections as they are: they change with the frame.
func playedHalf(m api.Memory, a predictor, kind int, s api.Sub) (api.Memory, []int) {
	if kind == api.KindSilence {
		m, exc, _ := conceal.Silent(m)
		return spoken(m, a, exc)
	}
	m.Lag = api.MinLag + s.Lag
	m.Pitch, _ = pitch.Gain(s.Pitch)
	m.Gain, _ = gain.Level(s.Level)
	beside, _ := pulses.Build(s.Index, s.Signs, m.Gain)
	exc, _ := conceal.Mix(m.Exc, m.Lag, m.Pitch, beside)
	m.Exc, _ = conceal.Keep(m.Exc, exc)
	return spoken(m, a, exc)
}

// spoken is the memory behind the samples of an excitation, and these.
func spoken(m api.Memory, a predictor, exc []int) (api.Memory, []int) {
	l, past, _ := synth.Make(a, m.Past, exc)
	m.Past = past
	return m, l
}
