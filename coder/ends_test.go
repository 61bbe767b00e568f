package coder_test

import (
	"slices"
	"testing"

	"voxsat/api"
	"voxsat/coder"
	"voxsat/conceal"
)

// Example 2 of the whole: if all frames come, what is heard is what Encode said, and both ends remember the same.
func TestEndsAgree(t *testing.T) {
	for name, next := range signals() {
		s, m := coder.Begin(), conceal.Fresh()
		for i := range 30 {
			n, b, heard := encoded(t, s, frameOf(next), i%11 == 7)
			s = n
			var l []int
			m, l = decoded(t, m, b)
			if m != s.Memory || !slices.Equal(l, heard) {
				t.Fatalf("%s, frame %d: the ends part", name, i)
			}
		}
	}
}

// Example 3 of the whole: frames are lost or turned on the way, a turned one being refused; behind the next refresh both ends remember the same.
func TestEndsMeetAgain(t *testing.T) {
	for name, next := range signals() {
		if name == "noughts" {
			continue
		}
		s, m := coder.Begin(), conceal.Fresh()
		for i := range 10 {
			n, b, heard := encoded(t, s, frameOf(next), i == 7)
			s = n
			if i == 3 || i == 4 {
				b[i] ^= 1 << i
				if _, _, errno := coder.Decode(m, b); errno != api.ErrSum {
					t.Errorf("%s, a turned frame: %d", name, errno)
				}
				m, _ = erased(t, m)
				continue
			}
			var l []int
			m, l = decoded(t, m, b)
			if same := m == s.Memory; same != (i < 3 || i > 6) {
				t.Errorf("%s, frame %d: the ends remember the same: %v", name, i, same)
			}
			if i > 6 && !slices.Equal(l, heard) {
				t.Errorf("%s, frame %d: another thing is heard", name, i)
			}
		}
	}
}

// Example 4 of the whole: of six frames lost on end the last one's excitation is nothing, and then nothing is heard.
func TestEndsFade(t *testing.T) {
	for name, next := range signals() {
		s, m := coder.Begin(), conceal.Fresh()
		for range 4 {
			n, b, _ := encoded(t, s, frameOf(next), false)
			s = n
			m, _ = decoded(t, m, b)
		}
		for i := range 6 {
			m, _ = erased(t, m)
			if m.Erased != i+1 {
				t.Errorf("%s: %d frames are lost; Erased is %d", name, i+1, m.Erased)
			}
		}
		if m.Exc != [80]int{} {
			t.Errorf("%s: what is left of the excitation: %v", name, m.Exc)
		}
	}
}

// P12.6, P12.7: what is heard is like what was spoken: a hum that goes on is nearer to its samples than to nothing.
func TestEndsAreLikeTheVoice(t *testing.T) {
	for _, name := range []string{"beats", "hum", "tone", "loud short"} {
		s, next := coder.Begin(), signals()[name]
		missed, all := 0, 0
		for i := range 20 {
			n, _, heard := encoded(t, s, frameOf(next), false)
			s = n
			if i < 5 {
				continue
			}
			for j, x := range s.Input[40:] {
				missed += (x - heard[j]) * (x - heard[j])
				all += x * x
			}
		}
		if missed >= all {
			t.Errorf("%s: squares of %d are missed of %d", name, missed, all)
		}
	}
}
