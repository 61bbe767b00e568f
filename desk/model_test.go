package desk_test

import (
	"testing"

	"voxsat/api"
	"voxsat/coder"
	"voxsat/conceal"
	"voxsat/desk"
)

// ends are those of a session, as the test keeps them.
type ends struct {
	s api.Encoder
	m api.Memory
}

// paper is a desk by steps of the test's own: a list of numbers and one of what belongs to them.
type paper struct {
	voices []int
	ends   []ends
}

func (p *paper) at(voice int) int {
	for i, x := range p.voices {
		if x == voice {
			return i
		}
	}
	return -1
}

// errno is what a call is refused with that gets no further than to the desk.
func (p *paper) errno(c api.Call) api.Errno {
	switch {
	case c.Kind < 1 || c.Kind > 5:
		return api.ErrKind
	case c.Kind > 1 && p.at(c.Voice) < 0:
		return api.ErrNone
	case c.Kind > 1:
		return api.OK
	case c.Voice < 0:
		return api.ErrRange
	case p.at(c.Voice) >= 0:
		return api.ErrTwice
	case len(p.voices) == 32:
		return api.ErrFull
	}
	return api.OK
}

func (p *paper) do(c api.Call) api.Answer {
	a := api.Answer{Voice: c.Voice, Code: p.errno(c)}
	if a.Code != api.OK {
		return a
	}
	i := p.at(c.Voice)
	switch c.Kind {
	case 1:
		p.voices, p.ends = append(p.voices, c.Voice), append(p.ends, ends{coder.Begin(), conceal.Fresh()})
		return a
	case 5:
		p.voices, p.ends = append(p.voices[:i], p.voices[i+1:]...), append(p.ends[:i], p.ends[i+1:]...)
		return a
	}
	e := p.ends[i]
	switch c.Kind {
	case 2:
		e.s, a.Bytes, a.Samp, a.Code = coder.Encode(e.s, c.Samp, c.Refresh)
	case 3:
		e.m, a.Samp, a.Code = coder.Decode(e.m, c.Bytes)
	case 4:
		e.m, a.Samp, a.Code = coder.Erase(e.m)
	}
	if a.Code == api.OK {
		p.ends[i] = e
	}
	return a
}

// someCall is any call; packets are those that were told last.
func someCall(next func(low, bound int) int, packet []byte) api.Call {
	c := api.Call{Kind: next(0, 6), Voice: next(-1, 36), Refresh: next(0, 5) == 0, Samp: wave(next(0, 1<<20), 1<<next(1, 15)-1), Bytes: packet}
	// Closing is seldom, so that a desk becomes full.
	if c.Kind == api.CallClose && next(0, 2) > 0 {
		c.Kind = api.CallOpen
	}
	switch next(0, 14) {
	case 0:
		c.Samp, c.Bytes = c.Samp[:next(0, 79)], c.Bytes[:next(0, 14)]
	case 1:
		c.Samp[next(0, 79)] = []int{32768, -32769, most, least}[next(0, 3)]
	case 2:
		c.Bytes = turned(c.Bytes, next(0, 14), 1<<next(0, 7))
	}
	return c
}

// P13.1 to P13.3: many calls of all kinds, wrong ones among them, get the answers that the words of the chapter, gone through by the test itself, give.
func TestManyCalls(t *testing.T) {
	for seed := range uint32(3) {
		d, p, next, packet := desk.New(), &paper{}, mixed(seed), silence()
		told := map[api.Errno]int{}
		for i := range 1500 {
			c := someCall(next, packet)
			got, want := d.Do(c), p.do(c)
			if !same(got, want) || d.Many() != len(p.voices) {
				t.Fatalf("call %d, %v: %v, %d are open; wanted %v, %d", i, c, got, d.Many(), want, len(p.voices))
			}
			if len(got.Bytes) > 0 {
				packet = got.Bytes
			}
			told[got.Code]++
		}
		for _, errno := range []api.Errno{api.OK, api.ErrSize, api.ErrRange, api.ErrKind, api.ErrSum, api.ErrNone, api.ErrFull, api.ErrTwice} {
			if told[errno] == 0 {
				t.Errorf("seed %d: of so many calls none was answered with %d", seed, errno)
			}
		}
	}
}
