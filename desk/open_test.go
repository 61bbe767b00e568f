package desk_test

import (
	"slices"
	"testing"

	"voxsat/api"
	"voxsat/desk"
)

// thirtyTwo is a desk with as many sessions as may be: the numbers 0 to 31.
func thirtyTwo(t *testing.T) *desk.Desk {
	t.Helper()
	d := desk.New()
	for voice := range 32 {
		done(t, d, open(voice))
		if d.Many() != voice+1 {
			t.Fatalf("Many: %d; wanted %d", d.Many(), voice+1)
		}
	}
	return d
}

// P13.1: a new desk has no sessions, and none of those of another one.
func TestNew(t *testing.T) {
	d, other := desk.New(), desk.New()
	if d == nil || d.Many() != 0 {
		t.Fatalf("New: %v, with %d sessions", d, d.Many())
	}
	done(t, d, open(3))
	if d.Many() != 1 || other.Many() != 0 || desk.New().Many() != 0 {
		t.Errorf("Many: %d, %d, %d; wanted 1, 0, 0", d.Many(), other.Many(), desk.New().Many())
	}
	refused(t, other, erase(3), api.ErrNone)
	done(t, other, open(3))
	refused(t, d, open(3), api.ErrTwice)
}

// P13.1: Many goes up and down with what is opened and closed, and stays with all other calls.
func TestMany(t *testing.T) {
	d := desk.New()
	for i, x := range []struct {
		c    api.Call
		want int
	}{
		{open(0), 1}, {open(7), 2}, {open(7), 2}, {open(-7), 2}, {encode(7, wave(1, 100)), 2}, {decode(0, silence()), 2},
		{erase(7), 2}, {shut(1), 2}, {shut(7), 1}, {shut(7), 1}, {open(7), 2}, {shut(0), 1}, {api.Call{Kind: 6, Voice: 7}, 1}, {shut(7), 0}, {shut(7), 0},
	} {
		d.Do(x.c)
		if d.Many() != x.want || d.Many() != x.want {
			t.Errorf("call %d: %d are open; wanted %d", i, d.Many(), x.want)
		}
	}
}

// P13.1: a nil desk has no sessions and gets none: whatever is asked, there is no such thing.
func TestNilDesk(t *testing.T) {
	var d *desk.Desk
	for _, kind := range append(kinds(), otherKinds()...) {
		for _, voice := range []int{0, 1, 9, 31, 32, -1, most, least} {
			refused(t, d, api.Call{Kind: kind, Voice: voice}, api.ErrNone)
			refused(t, d, full(kind, voice), api.ErrNone)
		}
	}
	if d.Many() != 0 {
		t.Errorf("Many of a nil desk: %d", d.Many())
	}
}

// What holds everywhere: no call panics; a desk that New did not make is one without sessions.
func TestDeskOfNoughts(t *testing.T) {
	for _, kind := range kinds()[1:] {
		var d desk.Desk
		refused(t, &d, full(kind, 4), api.ErrNone)
		refused(t, &d, api.Call{Voice: 4}, api.ErrKind)
		refused(t, &d, open(-4), api.ErrRange)
		done(t, &d, open(4))
		twin := opened(t, 4)
		if got, want := done(t, &d, full(kind, 4)), done(t, twin, full(kind, 4)); !same(got, want) || d.Many() != twin.Many() {
			t.Errorf("kind %d: %v, wanted %v; %d are open, wanted %d", kind, got, want, d.Many(), twin.Many())
		}
	}
}

// P13.2: a session of any number from 0 on; the answer has the number and nothing else.
func TestOpen(t *testing.T) {
	d := desk.New()
	for i, voice := range []int{0, 1, 31, 32, 33, 1000, 65536, 1<<31 - 1, 1 << 32, 1<<32 + 1, most} {
		if a := d.Do(full(api.CallOpen, voice)); !same(a, api.Answer{Voice: voice}) || d.Many() != i+1 {
			t.Errorf("opened %d: %v, %d", voice, a, d.Many())
		}
		refused(t, d, open(voice), api.ErrTwice)
	}
}

// P13.1, P13.2: numbers below 0 are refused, however many are open.
func TestOpenRefusesNumbers(t *testing.T) {
	for _, d := range []*desk.Desk{desk.New(), opened(t, 0, 1), thirtyTwo(t)} {
		for _, voice := range []int{-1, -2, -32, -1 << 32, -1<<32 + 1, least, least + 1} {
			refused(t, d, open(voice), api.ErrRange)
			refused(t, d, full(api.CallOpen, voice), api.ErrRange)
			refused(t, d, erase(voice), api.ErrNone)
		}
	}
}

// P13.2: a session that is open is not opened again, and goes on as it was.
func TestOpenRefusesTwice(t *testing.T) {
	d, twin := opened(t, 5, 6), opened(t, 5, 6)
	some(t, d, 5)
	some(t, twin, 5)
	refused(t, d, open(5), api.ErrTwice)
	refused(t, d, open(6), api.ErrTwice)
	if got, want := talk(t, d, 5), talk(t, twin, 5); !slices.EqualFunc(got, want, same) {
		t.Errorf("opened twice: %v; wanted %v", got, want)
	}
	refused(t, d, open(5), api.ErrTwice)
}

// P13.2: thirty-two sessions and no more; that a number is open, or below 0, is told ahead of that.
func TestOpenRefusesMore(t *testing.T) {
	d := thirtyTwo(t)
	for _, voice := range []int{32, 33, 1000, most} {
		refused(t, d, open(voice), api.ErrFull)
		refused(t, d, erase(voice), api.ErrNone)
	}
	for voice := range 32 {
		refused(t, d, open(voice), api.ErrTwice)
	}
	refused(t, d, open(-1), api.ErrRange)
	done(t, d, shut(17))
	done(t, d, open(1000))
	refused(t, d, open(17), api.ErrFull)
	refused(t, d, open(1000), api.ErrTwice)
	for voice := range 32 {
		if voice != 17 {
			done(t, d, encode(voice, wave(voice, 5000)))
		}
	}
}

// P13.2: a session that is closed is no more: all calls but an open one tell so. The others stay.
func TestClose(t *testing.T) {
	d, twin := opened(t, 5, 0, 6), opened(t, 0, 6)
	some(t, d, 6)
	some(t, twin, 6)
	if a := d.Do(full(api.CallClose, 5)); !same(a, api.Answer{Voice: 5}) || d.Many() != 2 {
		t.Errorf("closed: %v, %d are open", a, d.Many())
	}
	for _, kind := range kinds()[1:] {
		refused(t, d, full(kind, 5), api.ErrNone)
	}
	for _, voice := range []int{0, 6} {
		if got, want := talk(t, d, voice), talk(t, twin, voice); !slices.EqualFunc(got, want, same) {
			t.Errorf("session %d, beside one that was closed: %v; wanted %v", voice, got, want)
		}
	}
}

// P13.1, P13.2: a session that is opened once more remembers nothing, at either end.
func TestOpenAnew(t *testing.T) {
	d := opened(t, 5)
	some(t, d, 5)
	done(t, d, shut(5))
	done(t, d, open(5))
	if got, want := talk(t, d, 5), talk(t, opened(t, 5), 5); !slices.EqualFunc(got, want, same) {
		t.Errorf("opened anew: %v; wanted %v", got, want)
	}
}

// P13.2: where there is no such session it is that that is told, ahead of what is wrong with samples and bytes.
func TestNone(t *testing.T) {
	for _, d := range []*desk.Desk{desk.New(), opened(t, 0, 7), thirtyTwo(t)} {
		for _, voice := range []int{-1, 32, 33, 1 << 32, 1<<32 + 7, -1 << 32, most, least} {
			for _, kind := range kinds()[1:] {
				refused(t, d, full(kind, voice), api.ErrNone)
				refused(t, d, api.Call{Kind: kind, Voice: voice}, api.ErrNone)
				refused(t, d, api.Call{Kind: kind, Voice: voice, Samp: []int{most}, Bytes: []byte{1}}, api.ErrNone)
			}
		}
	}
}

// P13.2: a kind that is none is told ahead of all else: of sessions that there are and are not, of numbers below 0, of a desk that is full.
func TestOtherKinds(t *testing.T) {
	for _, d := range []*desk.Desk{desk.New(), opened(t, 0, 7), thirtyTwo(t)} {
		for _, kind := range otherKinds() {
			for _, voice := range []int{0, 7, 8, 32, -1, most, least} {
				refused(t, d, full(kind, voice), api.ErrKind)
				refused(t, d, api.Call{Kind: kind, Voice: voice}, api.ErrKind)
			}
		}
	}
}
