package trigger

import (
	"testing"

	"watershed/api"
)

// wantSpec: Check, New and Load take a spec alike; what New makes has nothing fresh, passed, closed or fired.
func wantSpec(t *testing.T, s Spec, want api.Errno) {
	t.Helper()
	if e := s.Check(); e != want {
		t.Errorf("Check of %v: %d; want %d", s, e, want)
	}
	m, e := New(s)
	if e != want || (m == nil) != (e != api.OK) {
		t.Errorf("New(%v): %v, %d; want %d", s, m, e, want)
	}
	if m != nil {
		wantState(t, m, State{})
	}
	m, e = Load(s, State{Next: 7, Stage: 2, Fresh: 8, Passed: true})
	if e != want || (m == nil) != (e != api.OK) {
		t.Errorf("Load(%v): %v, %d; want %d", s, m, e, want)
	}
}

// P10.1: specs that are told by hand, each rule kept and broken at its ends.
func TestSpecs(t *testing.T) {
	for _, c := range []struct {
		early, late, lateness int
		want                  api.Errno
	}{
		{0, 0, 0, api.OK}, {1, 0, 0, api.OK}, {999, 0, 0, api.OK}, {1000, 0, 0, api.OK},
		{1001, 0, 0, api.ErrTrigger}, {-1, 0, 0, api.ErrTrigger}, {least, 0, 0, api.ErrTrigger}, {most, 0, 0, api.ErrTrigger}, {1<<32 + 1, 0, 0, api.ErrTrigger},
		{0, 1, 1, api.OK}, {0, 999, 1, api.OK}, {0, 1000, 1, api.OK}, {1000, 1000, 1, api.OK}, {0, 0, 1, api.OK},
		{0, 1001, 1, api.ErrTrigger}, {0, -1, 1, api.ErrTrigger}, {0, least, 1, api.ErrTrigger}, {0, most, 1, api.ErrTrigger}, {0, 1<<32 + 1, 1, api.ErrTrigger},
		{0, 0, 1048575, api.OK}, {0, 0, 1048576, api.OK}, {0, 1, 1048576, api.OK}, {1000, 1000, 1048576, api.OK},
		{0, 0, 1048577, api.ErrTrigger}, {0, 1, 1048577, api.ErrTrigger}, {0, 0, -1, api.ErrTrigger}, {0, 1, -1, api.ErrTrigger}, {0, 0, least, api.ErrTrigger}, {0, 0, most, api.ErrTrigger}, {0, 0, 1<<32 + 1, api.ErrTrigger},
		{0, 1, 0, api.ErrTrigger}, {0, 1000, 0, api.ErrTrigger}, {5, 1, 0, api.ErrTrigger}, {0, -1, 0, api.ErrTrigger}, {0, 1001, 0, api.ErrTrigger}, {0, 1 << 32, 0, api.ErrTrigger},
		{least, least, least, api.ErrTrigger}, {most, most, most, api.ErrTrigger}, {-1, -1, -1, api.ErrTrigger},
	} {
		for _, accumulate := range []bool{false, true} {
			wantSpec(t, Spec{c.early, c.late, c.lateness, accumulate}, c.want)
		}
	}
}

// P10.1: all specs at and around the ends of what they may be.
func TestEverySpec(t *testing.T) {
	var counts, times []int
	for n := -3; n < 1004; n++ {
		if n < 3 || n > 997 || n%100 == 0 {
			counts = append(counts, n)
		}
	}
	counts = append(counts, least, least+1, -1000, api.MaxTime, 1<<32, 1<<32+5, most-1, most)
	for n := -3; n < 4; n++ {
		times = append(times, n, api.MaxTime+n)
	}
	times = append(times, least, 1000, 1001, api.MaxTime/2, 1<<32, most)
	for _, earlies := range counts {
		for _, lates := range counts {
			for _, lateness := range times {
				want := api.OK
				if earlies < 0 || earlies > 1000 || lates < 0 || lates > 1000 || lateness < 0 || lateness > 1<<20 || lateness == 0 && lates != 0 {
					want = api.ErrTrigger
				}
				wantSpec(t, Spec{Early: earlies, Late: lates, Lateness: lateness}, want)
			}
		}
	}
}
