package valid

import (
	"fmt"
	"slices"
	"testing"

	"watershed/api"
)

// wantWeight: the node that stands last is valid and has this weight; or if that is above MaxMany, it is refused.
func wantWeight(t *testing.T, want int, lines ...string) {
	t.Helper()
	last := len(lines) - 1
	sunk := append(slices.Clone(lines), fmt.Sprint("sink ", last))
	if want > api.MaxMany {
		wantNew(t, last, api.ErrMany, sunk...)
		return
	}
	v := valid(t, sunk...)
	if got, sink := v.Weight(last), v.Weight(last+1); got != want || sink != want {
		t.Errorf("Weight of the last of %v: %d, and %d of a Sink; want %d", lines, got, sink, want)
	}
}

// P12.1, P12.2: Eachs in a row weigh four times as much each; the fifth one is too heavy, whatever it emits.
func TestWeightOfEachs(t *testing.T) {
	lines, weight := []string{"source int"}, 1
	for i := range 5 {
		lines = append(lines, fmt.Sprint("each ", i, " - list(it)"))
		weight *= 4
		wantWeight(t, weight, lines...)
	}
	// Sides do not weigh.
	wantWeight(t, 4, "source int", "each 0 - list(it)", "each 1 - list(it)", "each 0 1,2 list(it)")
	// Nor does a Group weigh less than its In.
	wantWeight(t, 256, pairs, "each 0 - list(it)", "each 1 - list(it)", "group 2 0 0 0 acc sum", "each 3 - list(it)", "each 4 - list(it)")
	wantWeight(t, 1024, pairs, "each 0 - list(it)", "each 1 - list(it)", "group 2 0 0 0 acc sum", "each 3 - list(it)", "each 4 - list(it)", "each 5 - nil(int)")
}

// P12.1, P12.2: a Flatten weighs what its Ins do together: just MaxMany, and one more.
func TestWeightOfFlatten(t *testing.T) {
	heavy := []string{"source int", "each 0 - list(it)", "each 1 - list(it)", "each 2 - list(it)"} // 1, 4, 16, 64
	wantWeight(t, 85, append(slices.Clone(heavy), "flatten 0,1,2,3")...)
	thrice := append(slices.Clone(heavy), "flatten 3", "flatten 3,4", "flatten 3,4,5")
	wantWeight(t, 256, thrice...)
	wantWeight(t, 256, append(slices.Clone(thrice), "flatten 6")...)
	wantWeight(t, 257, append(slices.Clone(thrice), "flatten 0,6")...)
	wantWeight(t, 512, append(slices.Clone(thrice), "flatten 6", "flatten 6,7")...)
	wantWeight(t, 1024, append(slices.Clone(thrice), "flatten 6", "flatten 6", "flatten 6", "flatten 6,7,8,9")...)
	wantWeight(t, 1024, append(slices.Clone(thrice), "each 6 - list(it)")...)
	wantWeight(t, 512, append(slices.Clone(thrice), "window 6 2 2 1 0")...)
	doubled := []string{"source int"}
	for i := range 9 {
		doubled = append(doubled, fmt.Sprint("flatten ", 2*i), fmt.Sprintf("flatten %d,%d", 2*i, 2*i+1))
		wantWeight(t, 1<<(i+1), doubled...)
	}
}

// P12.1, P12.2: a Window of Sliding weighs as many times its In's as a time may have windows: Size by Period, rounded up.
func TestWeightOfSliding(t *testing.T) {
	for _, x := range []struct{ size, period, want int }{
		{1, 1, 1}, {2, 1, 2}, {16, 1, 16}, {10, 5, 2}, {11, 5, 3}, {14, 5, 3}, {15, 5, 3}, {16, 5, 4}, {9, 5, 2}, {5, 5, 1}, {6, 5, 2}, {1048576, 1048576, 1}, {1048576, 1048575, 2}, {1048576, 65536, 16}, {1048575, 65536, 16}, {1048576, 65537, 16}, {80, 5, 16}, {76, 5, 16}, {75, 5, 15},
	} {
		slide := fmt.Sprintf(" 2 %d %d 0", x.size, x.period)
		wantWeight(t, x.want, "source int", "window 0"+slide)
		wantWeight(t, 4*x.want, "source int", "each 0 - list(it)", "window 1"+slide)
		wantWeight(t, x.want, "source int", "window 0 2 "+fmt.Sprintf("%d %d %d", x.size, x.period, x.period-1))
	}
	// Two values of which each has two windows become four, though three by two is but one and a half.
	wantWeight(t, 4, "source int", "flatten 0", "flatten 0,1", "window 2 2 3 2 0")
	wantWeight(t, 9, "source int", "window 0 2 11 5 0", "window 1 2 11 5 0")
	wantWeight(t, 256, "source int", "window 0 2 16 1 0", "window 1 2 16 1 0")
	wantWeight(t, 512, "source int", "flatten 0", "flatten 0,1", "window 2 2 16 1 0", "window 3 2 16 1 0")
	wantWeight(t, 256, "source int", "each 0 - list(it)", "each 1 - list(it)", "each 2 - list(it)", "window 3 2 31 10 0")
	wantWeight(t, 320, "source int", "each 0 - list(it)", "each 1 - list(it)", "each 2 - list(it)", "window 3 2 41 10 0")
	// Other windows do not weigh.
	for _, other := range []string{"0 0 0 0", "1 1 0 0", "1 16 0 5", "3 1 0 0", "3 1048576 0 0"} {
		wantWeight(t, 4, "source int", "each 0 - list(it)", "window 1 "+other)
	}
}
