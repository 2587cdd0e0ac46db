package trigger

import (
	"slices"
	"testing"

	"watershed/api"
	"watershed/pane"
)

// P10.1, P10.6: two machines have nothing in common, be they made alike, or loaded from one state.
func TestApart(t *testing.T) {
	s := Spec{Early: 2, Late: 1, Lateness: 5}
	acts := []act{add(1), add(1), add(1), pass, add(1), add(4), shut}
	m, other := create(t, s), create(t, s)
	for _, a := range acts {
		was := m.State()
		one, two := load(t, s, was), load(t, s, was)
		if _, e := a.do(one); e != api.OK {
			t.Fatalf("%v: %d", a, e)
		}
		wantState(t, m, was)
		wantState(t, two, was)
		if _, e := a.do(m); e != api.OK {
			t.Fatalf("%v: %d", a, e)
		}
		wantState(t, m, one.State())
		wantState(t, two, was)
		wantState(t, other, State{})
	}
	for _, a := range acts {
		if _, e := a.do(other); e != api.OK {
			t.Fatalf("%v: %d", a, e)
		}
	}
	wantState(t, other, m.State())
}

// P10.6: what State told stays as it was told, whatever the machine does then; changing it changes neither that machine nor one that was loaded from it.
func TestStateStays(t *testing.T) {
	s := Spec{Early: 2, Late: 1, Lateness: 5}
	m := create(t, s)
	var states []State
	for _, a := range []act{add(1), add(1), add(1), pass, add(1), shut} {
		is := m.State()
		states = append(states, is)
		loaded, was := load(t, s, is), is
		is = State{99, 99, 99, true, true}
		wantState(t, m, was)
		wantState(t, loaded, was)
		if _, e := a.do(m); e != api.OK {
			t.Fatalf("%v behind %v: %d", a, is, e)
		}
	}
	want := []State{{0, 0, 0, false, false}, {0, 0, 1, false, false}, {1, 0, 0, false, false}, {1, 0, 1, false, false}, {2, 1, 0, true, false}, {3, 2, 0, true, false}}
	if !slices.Equal(states, want) {
		t.Errorf("%v; want %v", states, want)
	}
	wantState(t, m, State{3, 2, 0, true, true})
}

// P10.5: the panes that are told are new memory, their spare room too: changing them changes no machine and no other answer.
func TestPanesApart(t *testing.T) {
	m := create(t, Spec{Early: 1, Late: 1, Lateness: 5})
	var all [][]pane.Info
	for _, a := range []act{add(1), add(9), pass, add(2), add(1)} {
		fired, e := a.do(m)
		if e != api.OK || len(fired) != 1 {
			t.Fatalf("%v: %v, %d", a, fired, e)
		}
		all = append(all, fired)
	}
	want := []pane.Info{early(0), early(1), onTime(2), late(3), late(4)}
	was := m.State()
	for i, fired := range all {
		if fired[0] != want[i] {
			t.Errorf("pane %d: now %v", i, fired[0])
		}
		room := fired[:cap(fired)]
		for k := range room {
			room[k] = pane.Info{Index: 4711, Timing: 4712, Last: true}
		}
	}
	wantState(t, m, was)
	wantFired(t, m, add(1), late(5))
}
