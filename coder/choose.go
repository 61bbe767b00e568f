package coder

import (
	"voxsat/api"
	"voxsat/basic"
	"voxsat/gain"
	"voxsat/pitch"
	"voxsat/pulses"
	"voxsat/quant"
	"voxsat/synth"
)

const gainPlaces = 14 // bits behind the point, of a pitch gain

// chosen are the numbers of the halves of a frame whose kind and reflections are known.
func chosen(m api.Memory, p api.Packet, frame []int) [api.Subs]api.Sub {
	m = ahead(m, p.Kind)
	now, _ := quant.Values(p.Refl)
	for half, a := range predictors(m.Refl, now) {
		p.Subs[half] = numbers(m, a, frame[half*api.Half:][:api.Half])
		// The second half is chosen by what the other end will remember of the first one.
		m, _ = playedHalf(m, a, p.Kind, p.Subs[half])
	}
	return p.Subs
}

// numbers are those of a half by which the other end, with this memory and predictor, comes near to its samples.
func numbers(m api.Memory, a predictor, samples []int) api.Sub {
	ring, _ := synth.Ring(a, api.Half)
	fold := func(l []int) []int {
		folded, _ := synth.Fold(ring, l)
		return folded
	}
	_, still := spoken(m, a, make([]int, api.Half))
	target := less(samples, still)
	lag, c, e, _ := pitch.Pick(m.Exc, fold, target)
	s := api.Sub{Lag: lag - api.MinLag, Pitch: pitch.Nearest(c, e)}
	past, _ := pitch.Past(m.Exc, lag)
	left := less(target, louder(fold(past), s.Pitch))
	d, _ := pulses.Target(left, ring)
	s.Index, s.Signs, _ = pulses.Few(d, ring)
	ones, _ := pulses.Build(s.Index, s.Signs, api.One12)
	f := fold(ones)
	s.Level = gain.One(api.One12*product(left, f), product(f, f))
	return s
}

// louder is samples times the pitch gain of a number, stopped at 16 bits as a gain above one needs it.
func louder(l []int, number int) []int {
	g, _ := pitch.Gain(number)
	out := make([]int, len(l))
	for i, x := range l {
		out[i], _ = basic.Sat16((x*g + 1<<(gainPlaces-1)) >> gainPlaces)
	}
	return out
}

// less is what is left of samples when others are taken away.
func less(l, away []int) []int {
	out := make([]int, len(l))
	for i, x := range l {
		out[i], _ = basic.Sub(x, away[i])
	}
	return out
}
