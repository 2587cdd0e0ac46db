package trigger

import (
	"testing"

	"watershed/api"
)

// P10.6: what is fresh in the other one is so here, too, and stays so there; whatever specs both have.
func TestJoin(t *testing.T) {
	for _, s := range specs() {
		for _, n := range []int{0, 1, 2, 7, greatest} {
			for _, k := range []int{0, 1, 3, 1000, greatest} {
				for _, other := range []Spec{s, {}, {Early: 5, Late: 1, Lateness: 9, Accumulate: true}} {
					m, o := load(t, s, State{Fresh: n}), load(t, other, State{Fresh: k})
					wantJoin(t, m, o, api.OK)
					wantState(t, m, State{Fresh: n + k})
					wantState(t, o, State{Fresh: k})
					wantJoin(t, o, m, api.OK)
					wantState(t, o, State{Fresh: n + k + k})
					wantState(t, m, State{Fresh: n + k})
				}
			}
		}
	}
}

// P10.6: a machine doesn't join itself, whatever it has; it does join one that is just as it is.
func TestJoinSelf(t *testing.T) {
	all, _ := ages(t, Spec{Early: 3, Late: 3, Lateness: 9})
	for _, m := range append(all, create(t, Spec{}), load(t, Spec{}, State{Fresh: 4})) {
		wantJoin(t, m, m, api.ErrTrigger)
	}
	m := load(t, Spec{}, State{Fresh: 4})
	wantJoin(t, m, load(t, Spec{}, State{Fresh: 4}), api.OK)
	wantState(t, m, State{Fresh: 8})
}

// P10.6: one that has passed, or fired a pane, joins none and is joined by none, both ways round; nor do two such ones.
func TestJoinTold(t *testing.T) {
	s := Spec{Early: 3, Late: 3, Lateness: 9}
	fired, passed, closed := create(t, s), create(t, s), create(t, s)
	wantFired(t, fired, add(3), early(0))
	wantFired(t, passed, pass, onTime(0))
	wantFired(t, closed, pass, onTime(0))
	wantFired(t, closed, shut)
	ended := create(t, Spec{})
	wantFired(t, ended, pass, last(onTime(0)))
	behind := load(t, s, State{1, 2, 2, true, false})
	loaded := load(t, s, State{Next: 1, Fresh: 5})
	far := load(t, s, State{Next: greatest})
	for _, m := range []*Machine{fired, passed, closed, ended, behind, loaded, far} {
		for _, other := range []*Machine{create(t, s), create(t, Spec{}), load(t, s, State{Fresh: 2})} {
			wantJoin(t, m, other, api.ErrTrigger)
			wantJoin(t, other, m, api.ErrTrigger)
		}
		for _, other := range []*Machine{fired, passed, closed, ended, behind, loaded, far} {
			wantJoin(t, m, other, api.ErrTrigger)
		}
	}
}

// P10.6, P10.2: joining itself fires nothing, however many are fresh then; what comes next fires a pane of all; both go on apart.
func TestJoinThen(t *testing.T) {
	s := Spec{Early: 4, Late: 2, Lateness: 5}
	m, other := create(t, s), create(t, s)
	wantFired(t, m, add(3))
	wantFired(t, other, add(3))
	wantJoin(t, m, other, api.OK)
	wantState(t, m, State{Fresh: 6})
	wantFired(t, m, add(1), early(0))
	wantState(t, m, State{1, 0, 0, false, false})
	wantState(t, other, State{Fresh: 3})
	wantFired(t, other, pass, onTime(0))
	wantFired(t, other, add(1))
	wantState(t, m, State{1, 0, 0, false, false})
	wantFired(t, m, pass, onTime(1))
	wantState(t, other, State{1, 1, 1, true, false})

	m, other = create(t, s), create(t, s)
	wantFired(t, other, add(2))
	for i := range 3 {
		wantJoin(t, m, other, api.OK)
		wantState(t, m, State{Fresh: 2 * (i + 1)})
	}
	wantFired(t, m, pass, onTime(0))
	wantState(t, other, State{Fresh: 2})
}

// P10.6, P10.2: two that join one another in turn, again and again, have more and more fresh, till no int has more; never too few for a pane.
func TestJoinGreat(t *testing.T) {
	s := Spec{Early: 1000}
	m, other := load(t, s, State{Fresh: greatest}), load(t, s, State{Fresh: greatest})
	for range 200 {
		a, b := m.State().Fresh, other.State().Fresh
		want := most
		if a <= most-b {
			want = a + b
		}
		if e := m.Join(other); e != api.OK {
			t.Fatalf("Join: %d", e)
		}
		wantState(t, m, State{Fresh: want})
		wantState(t, other, State{Fresh: b})
		m, other = other, m
	}
	wantState(t, m, State{Fresh: most})
	wantFired(t, m, add(1), early(0))
	wantState(t, m, State{1, 0, 0, false, false})
	wantFired(t, other, pass, last(onTime(0)))
}
