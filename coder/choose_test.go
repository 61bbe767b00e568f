package coder_test

import (
	"testing"

	"voxsat/api"
)

func sub(lag, pitch int, index [4]int, signs, level int) api.Sub {
	return api.Sub{Lag: lag, Pitch: pitch, Index: index, Signs: signs, Level: level}
}

// checkHalves holds the numbers of a frame's halves against those that are wanted.
func checkHalves(t *testing.T, name string, s api.Encoder, l []int, want [2]api.Sub) {
	t.Helper()
	_, b, _ := encoded(t, s, l, false)
	if p := unpacked(t, b); p.Subs != want {
		t.Errorf("Encode, %s: %v; wanted %v", name, p.Subs, want)
	}
}

// P12.7: excitation that, times a pitch gain, lies halfway between two numbers, or just below: which one it is rounded to is to be seen in the numbers behind it. These were worked out apart from the program.
func TestChooseRounds(t *testing.T) {
	halfway, below := []int{-12288, -4096, 4096, 12288}, []int{-24581, -8197, 8187, 24571}
	for _, x := range []struct {
		name   string
		values []int
		seed   uint32
		size   int
		want   [2]api.Sub
	}{
		{"halfway 1", halfway, 47587, 16000, [2]api.Sub{sub(51, 2, [4]int{8, 7, 0, 6}, 2, 29), sub(48, 2, [4]int{2, 3, 9, 1}, 4, 29)}},
		{"halfway 2", halfway, 86778, 16000, [2]api.Sub{sub(8, 2, [4]int{4, 1, 8, 1}, 13, 29), sub(53, 2, [4]int{0, 8, 3, 0}, 10, 28)}},
		{"halfway 3", halfway, 93035, 8000, [2]api.Sub{sub(14, 1, [4]int{0, 2, 4, 3}, 12, 26), sub(22, 2, [4]int{0, 7, 8, 5}, 4, 26)}},
		{"below 1", below, 51281, 8000, [2]api.Sub{sub(35, 1, [4]int{0, 9, 8, 4}, 15, 27), sub(39, 1, [4]int{7, 6, 0, 5}, 3, 27)}},
		{"below 2", below, 54657, 4000, [2]api.Sub{sub(0, 0, [4]int{5, 6, 1, 1}, 15, 24), sub(24, 1, [4]int{0, 4, 3, 8}, 11, 23)}},
		{"below 3", below, 104986, 4000, [2]api.Sub{sub(46, 0, [4]int{7, 9, 4, 5}, 15, 25), sub(24, 1, [4]int{0, 0, 7, 6}, 7, 23)}},
	} {
		s, next := someSession(1), mixed(x.seed)
		for i := range s.Memory.Exc {
			s.Memory.Exc[i] = x.values[next(0, 3)]
		}
		checkHalves(t, x.name, s, frameOf(func() int { return next(-x.size, x.size) }), x.want)
	}
}

// P12.7: sums so near to the middle between two levels that a quotient of them, rounded, would be another one. The numbers were worked out apart from the program.
func TestChooseLevels(t *testing.T) {
	for _, x := range []struct {
		name string
		seed uint32
		want [2]api.Sub
	}{
		{"near 1", 5344, [2]api.Sub{sub(57, 2, [4]int{0, 1, 3, 8}, 15, 28), sub(0, 0, [4]int{2, 2, 2, 0}, 0, 21)}},
		{"near 2", 21697, [2]api.Sub{sub(11, 7, [4]int{3, 3, 3, 3}, 0, 27), sub(0, 0, [4]int{4, 4, 4, 3}, 15, 18)}},
		{"near 3", 23666, [2]api.Sub{sub(37, 7, [4]int{5, 2, 3, 3}, 15, 25), sub(51, 0, [4]int{0, 0, 4, 4}, 3, 17)}},
		{"near 4", 24963, [2]api.Sub{sub(45, 2, [4]int{1, 8, 3, 1}, 15, 28), sub(59, 1, [4]int{6, 8, 0, 0}, 14, 25)}},
	} {
		next := mixed(x.seed + 5)
		checkHalves(t, x.name, someSession(x.seed), frameOf(func() int { return next(-40, 40) }), x.want)
	}
}
