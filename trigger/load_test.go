package trigger

import (
	"slices"
	"testing"

	"watershed/api"
	"watershed/pane"
)

// plainLoad: is there a machine that is so, as P9.2 and P10.6 say it?
func plainLoad(s State) bool {
	switch {
	case s.Next < 0 || s.Next > 1099511627776:
		return false
	case !slices.Contains([]int{0, 1, 2, 3}, s.Stage):
		return false
	case s.Next == 0 && s.Stage != 0:
		return false
	case s.Fresh < 0 || s.Fresh > 1099511627776:
		return false
	case s.Closed && !s.Passed:
		return false
	case slices.Contains([]int{1, 2, 3}, s.Stage) && !s.Passed:
		return false
	case s.Stage == 0 && s.Passed:
		return false
	}
	return true
}

// wantLoad: a machine is so, or is refused, whatever right spec it has.
func wantLoad(t *testing.T, is State, want api.Errno) {
	t.Helper()
	for _, s := range []Spec{{}, {Early: 1}, {Lateness: 1}, {1000, 1000, api.MaxTime, true}} {
		m, e := Load(s, is)
		if e != want || (m == nil) != (e != api.OK) {
			t.Fatalf("Load(%v, %v): %v, %d; want %d", s, is, m, e, want)
		}
		if m != nil {
			wantState(t, m, is)
		}
	}
}

// P10.6: states that are told by hand: each rule kept, and broken by one alone.
func TestLoad(t *testing.T) {
	for _, c := range []struct {
		is   State
		want api.Errno
	}{
		{State{0, 0, 0, false, false}, api.OK}, {State{1, 0, 0, false, false}, api.OK}, {State{0, 0, 1, false, false}, api.OK},
		{State{1, 1, 0, true, false}, api.OK}, {State{1, 2, 0, true, false}, api.OK}, {State{1, 3, 0, true, false}, api.OK},
		{State{1, 1, 0, true, true}, api.OK}, {State{1, 2, 0, true, true}, api.OK}, {State{1, 3, 0, true, true}, api.OK},
		{State{5, 1, 7, true, false}, api.OK}, {State{5, 2, 7, true, true}, api.OK}, {State{5, 3, 7, true, true}, api.OK},

		{State{0, 0, 1099511627776, false, false}, api.OK}, {State{0, 0, 1099511627777, false, false}, api.ErrTrigger}, {State{0, 0, -1, false, false}, api.ErrTrigger},
		{State{2, 2, 1099511627776, true, true}, api.OK}, {State{2, 2, 1099511627777, true, true}, api.ErrTrigger}, {State{2, 2, -1, true, true}, api.ErrTrigger},
		{State{0, 0, least, false, false}, api.ErrTrigger}, {State{0, 0, most, false, false}, api.ErrTrigger},

		{State{1, 0, 0, false, true}, api.ErrTrigger}, {State{0, 0, 0, false, true}, api.ErrTrigger}, {State{0, 0, 5, false, true}, api.ErrTrigger},
		{State{1, 1, 0, false, false}, api.ErrTrigger}, {State{1, 2, 0, false, false}, api.ErrTrigger}, {State{1, 3, 0, false, false}, api.ErrTrigger},
		{State{1, 1, 0, false, true}, api.ErrTrigger}, {State{1, 2, 0, false, true}, api.ErrTrigger}, {State{1, 3, 0, false, true}, api.ErrTrigger},
		{State{1, 0, 0, true, false}, api.ErrTrigger}, {State{0, 0, 0, true, false}, api.ErrTrigger}, {State{0, 0, 0, true, true}, api.ErrTrigger}, {State{5, 0, 3, true, true}, api.ErrTrigger},

		{State{-1, 0, 0, false, false}, api.ErrTrigger}, {State{1099511627776, 0, 0, false, false}, api.OK}, {State{1099511627777, 0, 0, false, false}, api.ErrTrigger},
		{State{1099511627776, 3, 0, true, true}, api.OK}, {State{1099511627777, 3, 0, true, true}, api.ErrTrigger}, {State{least, 1, 0, true, false}, api.ErrTrigger}, {State{most, 1, 0, true, false}, api.ErrTrigger},
		{State{0, 1, 0, true, false}, api.ErrTrigger}, {State{0, 2, 0, true, false}, api.ErrTrigger}, {State{0, 3, 0, true, true}, api.ErrTrigger},
		{State{1, -1, 0, true, false}, api.ErrTrigger}, {State{1, 4, 0, true, false}, api.ErrTrigger}, {State{1, -1, 0, false, false}, api.ErrTrigger}, {State{1, 4, 0, false, false}, api.ErrTrigger}, {State{1, least, 0, true, true}, api.ErrTrigger}, {State{1, most, 0, true, true}, api.ErrTrigger},
	} {
		wantLoad(t, c.is, c.want)
	}
}

// everyState goes through all states at and around the ends of what they may be.
func everyState(do func(State)) {
	numbers := []int{least, -greatest, -1, 0, 1, 2, 3, 4, 1000, 1001, 1 << 32, greatest - 1, greatest, greatest + 1, most}
	stages := []int{least, -1, 0, 1, 2, 3, 4, 5, 1 << 32, 1<<32 + 1, most}
	for _, next := range numbers {
		for _, fresh := range numbers {
			for _, stage := range stages {
				for flags := range 4 {
					do(State{next, stage, fresh, flags&1 != 0, flags&2 != 0})
				}
			}
		}
	}
}

// P10.6: all of them are loaded just where the chapter says it; what a pane's line refuses is refused.
func TestEveryState(t *testing.T) {
	rights := 0
	everyState(func(is State) {
		want := api.ErrTrigger
		if plainLoad(is) {
			want = api.OK
			rights++
		}
		if _, e := pane.Load(is.Next, is.Stage); e != api.OK && want == api.OK {
			t.Fatalf("%v: layer 9 refuses it", is)
		}
		wantLoad(t, is, want)
	})
	if rights == 0 {
		t.Error("none is right")
	}
}

// P10.6: a right state is refused with a spec that is not.
func TestLoadWrongSpec(t *testing.T) {
	for _, s := range []Spec{{Early: -1}, {Early: 1001}, {Late: 1}, {Late: -1, Lateness: 1}, {Late: 1001, Lateness: 1}, {Lateness: -1}, {Lateness: api.MaxTime + 1}} {
		for _, is := range []State{{}, {5, 2, 7, true, false}, {0, 0, -1, false, false}, {0, 4, 0, false, true}} {
			if m, e := Load(s, is); m != nil || e != api.ErrTrigger {
				t.Errorf("Load(%v, %v): %v, %d", s, is, m, e)
			}
		}
	}
}

// P10.2 to P10.4, P10.6: what one does that was loaded so, each right state, is what its state says.
func TestLoadedActs(t *testing.T) {
	everyState(func(is State) {
		if !plainLoad(is) || is.Stage == 3 && !is.Closed { // the latter is TestLoadedOver's
			return
		}
		s := Spec{Early: 2, Late: 3, Lateness: 4}
		behind, enough, next := State{is.Next + 1, 0, 0, is.Passed, false}, is.Fresh+1 >= 2, early(is.Next)
		if is.Passed {
			behind.Stage, enough, next = 2, is.Fresh+1 >= 3, late(is.Next)
		}
		m := load(t, s, is)
		switch {
		case is.Closed:
			wantRefused(t, m, add(1), api.ErrClosed)
		case enough:
			wantFired(t, m, add(1), next)
			wantState(t, m, behind)
		default:
			wantFired(t, m, add(1))
			wantState(t, m, State{is.Next, is.Stage, is.Fresh + 1, is.Passed, false})
		}
		m = load(t, s, is)
		if is.Passed {
			wantRefused(t, m, pass, api.ErrClosed)
		} else {
			wantFired(t, m, pass, onTime(is.Next))
			wantState(t, m, State{is.Next + 1, 1, 0, true, false})
		}
		m = load(t, s, is)
		switch {
		case !is.Passed:
			wantRefused(t, m, shut, api.ErrTrigger)
		case is.Closed:
			wantRefused(t, m, shut, api.ErrClosed)
		case is.Fresh == 0:
			wantFired(t, m, shut)
			wantState(t, m, State{is.Next, is.Stage, 0, true, true})
		default:
			wantFired(t, m, shut, last(late(is.Next)))
			wantState(t, m, State{is.Next + 1, 3, 0, true, true})
		}
	})
}
