package valid

import (
	"slices"
	"testing"

	"watershed/api"
)

// P12.1: a Group that waits may not be above another one, near or far, live or not; one that doesn't wait may.
func TestWaitsAboveGroup(t *testing.T) {
	for _, below := range [][]string{
		{"group 1 0 0 0 acc sum"},
		{"group 1 3 0 0 acc sum"},
		{"window 1 1 10 0 0", "group 2 0 0 0 acc sum"},
		{"each 1 - list(it)", "flatten 0", "flatten 2", "group 4 0 0 0 acc count"},
		{"flatten 0,1", "group 2 0 0 0 dis sum"},
		{"each 0 - list(it)", "flatten 1,2", "flatten 3", "window 4 3 5 0 0", "group 5 0 0 0 acc sum", "sink 1"},
	} {
		for _, trig := range []string{"1 0 0 acc", "0 0 1 acc", "0 3 7 acc", "5 3 7 acc", "1 0 0 dis"} {
			wantNew(t, 1, api.ErrInner, append([]string{pairs, "group 0 " + trig + " sum"}, append(slices.Clone(below), "sink 0")...)...)
		}
	}
	wantNew(t, 0, api.OK, pairs, "group 0 0 0 0 acc sum", "group 1 1 0 0 acc sum", "sink 2")
	wantNew(t, 0, api.OK, pairs, "group 0 0 0 0 dis sum", "each 1 - list(it)", "group 2 0 2 5 dis sum", "sink 3")
	// Beside one another they may wait.
	wantNew(t, 0, api.OK, pairs, "group 0 1 0 0 acc sum", "group 0 2 0 0 acc sum", "flatten 1,2", "sink 3")
}

// P12.1: a Group that waits may not be in a Side, nor above a node that is in one.
func TestWaitsInSide(t *testing.T) {
	for _, below := range [][]string{
		{"each 0 1 list(it)"},
		{"each 0 0,1 list(it)"},
		{"flatten 0,1", "each 0 2 list(it)"},
		{"window 1 1 10 0 0", "each 2 - list(it)", "each 0 0,3 list(it)", "sink 4"},
		{"each 1 - list(it)", "each 2 - list(it)", "each 1 2 list(it)"},
		{"each 1 1 list(it)"},
	} {
		for _, trig := range []string{"1 0 0 acc", "0 0 1 acc", "5 3 7 acc"} {
			wantNew(t, 1, api.ErrInner, append([]string{pairs, "group 0 " + trig + " sum"}, append(slices.Clone(below), "sink 0")...)...)
		}
		wantValid(t, append([]string{pairs, "group 0 0 0 0 acc sum"}, append(slices.Clone(below), "sink 0")...)...)
	}
	// What it is beside, or below, may be in one.
	wantValid(t, pairs, "each 0 - list(it)", "group 1 1 0 0 acc sum", "each 0 0,1 list(it)", "sink 2", "sink 3")
	wantValid(t, pairs, "each 0 - list(it)", "group 1 1 0 0 acc sum", "each 2 0,1 list(it)", "sink 3")
}

// P12.1: a Group that waits with Accumulate not set may be used by Sinks alone.
func TestWaitsAndSpreads(t *testing.T) {
	for _, x := range []struct {
		below []string
		want  api.Errno
	}{
		{[]string{"sink 1"}, api.OK},
		{[]string{"sink 1", "sink 1", "sink 0", "each 0 - list(it)"}, api.OK},
		{[]string{"sink 0"}, api.OK},
		{[]string{"each 1 - list(it)", "sink 2"}, api.ErrInner},
		{[]string{"sink 1", "flatten 1"}, api.ErrInner},
		{[]string{"flatten 0,1", "sink 2"}, api.ErrInner},
		{[]string{"sink 1", "sink 1", "window 1 1 10 0 0"}, api.ErrInner},
	} {
		for _, trig := range []string{"1 0 0 ", "0 0 1 ", "0 1 5 ", "2 2 2 "} {
			place := 1
			if x.want == api.OK {
				place = 0
			}
			wantNew(t, place, x.want, append([]string{pairs, "group 0 " + trig + "dis sum"}, x.below...)...)
			if x.below[0] != "sink 0" {
				wantValid(t, append([]string{pairs, "group 0 " + trig + "acc sum"}, x.below...)...)
			}
		}
		wantValid(t, append([]string{pairs, "group 0 0 0 0 dis sum"}, x.below...)...)
	}
}

// P12.1: a Group that waits with Accumulate not set has to have a combiner that is plain.
func TestWaitsNotPlain(t *testing.T) {
	for text, plain := range map[string]bool{
		"sum": true, "count": true, "min": true, "max": true, "all": true, "set": true, "top(3)": true, "both(sum,count)": true, "both(both(min,max),all)": true,
		"mean": false, "both(mean,sum)": false, "both(sum,mean)": false, "both(sum,both(count,mean))": false,
	} {
		for _, trig := range []string{"1 0 0 ", "0 0 1 ", "0 1 5 ", "2 2 2 "} {
			if plain {
				wantValid(t, pairs, "group 0 "+trig+"dis "+text, "sink 1")
			} else {
				wantNew(t, 1, api.ErrInner, pairs, "group 0 "+trig+"dis "+text, "sink 1")
			}
			wantValid(t, pairs, "group 0 "+trig+"acc "+text, "sink 1")
		}
		wantValid(t, pairs, "group 0 0 0 0 dis "+text, "sink 1")
	}
}

// P12.1: of two Groups that wait and are wrong, the first; and one that is right may stand ahead of it.
func TestTwoThatWait(t *testing.T) {
	wantNew(t, 1, api.ErrInner, pairs, "group 0 1 0 0 dis mean", "group 0 1 0 0 dis mean", "sink 1", "sink 2")
	wantNew(t, 2, api.ErrInner, pairs, "group 0 1 0 0 acc mean", "group 0 1 0 0 dis mean", "sink 1", "sink 2")
	wantNew(t, 1, api.ErrInner, pairs, "group 0 1 0 0 acc sum", "group 0 1 0 0 dis mean", "group 1 0 0 0 acc sum", "sink 2")
	wantNew(t, 2, api.ErrInner, pairs, "group 0 0 0 0 acc sum", "group 1 1 0 0 acc sum", "group 2 1 0 0 dis mean", "sink 3")
	wantNew(t, 3, api.ErrInner, pairs, "group 0 1 0 0 acc sum", "sink 1", "group 0 1 0 0 acc sum", "each 0 3 list(it)")
}

// P12.1: of two faults at one node, the one that is named first.
func TestTwoFaultsOfOne(t *testing.T) {
	heavy := []string{pairs, "each 0 - list(it)", "each 1 - list(it)", "each 2 - list(it)", "each 3 - list(it)", "window 0 3 5 0 0"}
	for line, want := range map[string]api.Errno{
		"each 0 5 list(it":                 api.ErrSyntax, // and a Side of Sessions
		"each 0 5 it":                      api.ErrWindow, // and no list
		"each 4 5 list(it":                 api.ErrSyntax, // and too heavy
		"each 4 5 x":                       api.ErrWindow,
		"each 4 - x":                       api.ErrName,
		"each 4 - list(it)":                api.ErrMany,
		"flatten 3,4":                      api.ErrMany,
		"flatten 4,5":                      api.ErrMixed,
		"window 4 2 2 1 0":                 api.ErrMany,
		"window 4 2 1 1 0":                 api.OK,
		"group 5 1 0 0 acc sum":            api.ErrInner,
		"group 5 1 0 0 acc spin":           api.ErrCombine,
		"group 5 1 0 0 acc su":             api.ErrSyntax,
		"group 4 0 0 0 acc sum":            api.OK,
		"group 5 0 0 0 acc sum":            api.OK,
		"each 5 - list(second(it))":        api.OK,
		"each 5 - list(nil(option(int)))":  api.OK,
		"each 4 0 list(add(it,side(1)),x)": api.ErrSide,
	} {
		place := len(heavy)
		if want == api.OK {
			place = 0
		}
		wantNew(t, place, want, append(slices.Clone(heavy), line, "sink 6")...)
	}
	merged := []string{pairs, "window 0 3 5 0 0", "group 1 0 0 0 acc sum"}
	for _, x := range []struct {
		lines []string
		want  api.Errno
	}{
		{[]string{"each 2 - list(first(it))", "group 3 1 0 0 acc su"}, api.ErrPair}, // no combiner either; below merged sessions; waits
		{[]string{"each 2 - list(it)", "group 3 1 0 0 acc su"}, api.ErrSyntax},
		{[]string{"each 2 - list(it)", "group 3 1 0 0 acc spin"}, api.ErrCombine},
		{[]string{"each 2 - list(it)", "group 3 1 0 0 acc sum"}, api.ErrWindow},
		{[]string{"window 1 3 5 0 0", "group 3 1 0 0 acc sum"}, api.ErrInner},
	} {
		wantNew(t, 4, x.want, append(append(slices.Clone(merged), x.lines...), "sink 4")...)
	}
}

// P12.1: of faults at two nodes, the one of the node that stands first, whatever they are and whether they are live; those of the whole come last.
func TestTwoFaults(t *testing.T) {
	faults := map[string]api.Errno{
		"each 0 - su":             api.ErrName,
		"each 0 - su(":            api.ErrSyntax,
		"each 0 1 list(it)":       api.ErrWindow,
		"group 2 0 0 0 acc sum":   api.ErrPair,
		"group 0 0 0 0 acc x":     api.ErrSyntax,
		"group 0 0 0 0 acc spin":  api.ErrCombine,
		"group 3 0 0 0 acc sum":   api.ErrWindow,
		"group 1 1 0 0 acc count": api.ErrInner,
		"flatten 0,1":             api.ErrMixed,
		"each 4 - list(it)":       api.ErrMany,
	}
	lines := []string{pairs, "window 0 3 5 0 0", "each 0 - list(1)", "group 1 0 0 0 acc sum", "window 0 2 16 1 0", "window 4 2 16 1 0", "flatten 5", "group 0 1 0 0 dis mean"}
	for first, want := range faults {
		if first == "each 4 - list(it)" {
			first = "each 6 - list(it)"
		}
		for second := range faults {
			wantNew(t, 8, want, append(slices.Clone(lines), first, "source int", second, "sink 0")...)
			wantNew(t, 8, want, append(slices.Clone(lines), first, second)...)
		}
		// The Group 7 is wrong as one that waits, and there is no Sink: both are told only if no node is wrong.
		wantNew(t, 8, want, append(slices.Clone(lines), first)...)
	}
	wantNew(t, 7, api.ErrInner, append(slices.Clone(lines), "sink 0")...)
	wantNew(t, 7, api.ErrInner, lines...)
	wantNew(t, 0, api.ErrSink, lines[:7]...)
}
