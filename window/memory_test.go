package window

import (
	"slices"
	"testing"
	"unsafe"

	"watershed/api"
)

// roomy tells windows in memory of their own, with spare room that is marked.
func roomy(windows []Window) []Window {
	room := slices.Concat(windows, []Window{{4711, 1}, {4712, 2}, {0, 0}})
	return room[:len(windows)]
}

// lists are what Sort and Merge are given: in order and not, what merges and not, right and not.
func lists() [][]Window {
	return [][]Window{
		{}, {{0, 5}}, {{0, 5}, {5, 9}}, {{5, 9}, {0, 5}}, {{0, 5}, {4, 9}}, {{4, 9}, {0, 5}}, {{0, 9}, {0, 9}}, {{0, 2}, {20, 22}, {3, 5}, {1, 21}}, {{0, 9}, {8, 9}, {0, 5}, {4, 5}, {-3, 5}},
		rightWindows(), {{5, 9}, {}, {0, 5}}, {{5, 9}, {0, 5}, {7, 3}}, {{most, least}, {5, 9}, {0, 5}},
	}
}

// P7.6: what is handed in stays as it was, its spare room too, right or wrong.
func TestUntouched(t *testing.T) {
	for _, was := range lists() {
		given := roomy(was)
		before := slices.Clone(given[:cap(given)])
		Sort(given...)
		Merge(given...)
		if !slices.Equal(given[:cap(given)], before) {
			t.Errorf("%v: now %v", was, given)
		}
	}
}

// rooms adds to taken the places of all windows of lists, spare room too, and tells whether any is there already.
func rooms(taken map[*Window]bool, lists ...[]Window) bool {
	shared := false
	for _, l := range lists {
		for i := range l[:cap(l)] {
			place := &l[:cap(l)][i]
			shared = shared || taken[place]
			taken[place] = true
		}
	}
	return shared
}

// P7.6: what is told is new memory, spare room too: nothing that is done to it shows in what was handed in, or in what is told later.
func TestNewMemory(t *testing.T) {
	for _, was := range lists() {
		given := roomy(was)
		sorted, e := Sort(given...)
		again, _ := Sort(given...)
		merged, _ := Merge(given...)
		anew, _ := Merge(given...)
		if rooms(map[*Window]bool{}, given, sorted, again, merged, anew) {
			t.Errorf("%v: memory is shared", was)
		}
		if e == api.OK && len(was) == 0 && unsafe.SliceData(sorted) != nil && unsafe.SliceData(sorted) == unsafe.SliceData(given) {
			t.Errorf("%v: an empty answer lies where the argument does", was)
		}
		wantSorted, wantMerged := slices.Clone(again), slices.Clone(anew)
		for _, l := range [][]Window{sorted, merged} {
			for i := range l[:cap(l)] {
				l[:cap(l)][i] = Window{4713, 4714}
			}
		}
		later, _ := Sort(given...)
		last, _ := Merge(given...)
		if !slices.Equal(later, wantSorted) || !slices.Equal(last, wantMerged) || !slices.Equal(given, was) {
			t.Errorf("%v: %v, %v", was, later, last)
		}
	}
	for _, f := range rightFns() {
		one, _ := f.Assign(7)
		two, _ := f.Assign(7)
		if rooms(map[*Window]bool{}, one, two) {
			t.Errorf("%v: memory is shared", f)
		}
		want := slices.Clone(two)
		one[0] = Window{4713, 4714}
		three, e := f.Assign(7)
		wantWindows(t, f, three, e, want)
		wantWindows(t, f, two, e, want)
	}
}

// P7.6: what is handed in isn't kept: what is done to it later doesn't show.
func TestNotKept(t *testing.T) {
	for _, was := range lists() {
		given := roomy(was)
		sorted, _ := Sort(given...)
		merged, _ := Merge(given...)
		wantSorted, wantMerged := slices.Clone(sorted), slices.Clone(merged)
		for i := range given[:cap(given)] {
			given[:cap(given)][i] = Window{1, 2}
		}
		if !slices.Equal(sorted, wantSorted) || !slices.Equal(merged, wantMerged) {
			t.Errorf("%v: %v, %v", was, sorted, merged)
		}
	}
}
