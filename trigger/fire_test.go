package trigger

import (
	"testing"

	"watershed/api"
	"watershed/pane"
)

// P10.2 to P10.5: the chapter's own examples.
func TestExamples(t *testing.T) {
	m := create(t, Spec{Early: 2})
	wantFired(t, m, add(1))
	wantFired(t, m, add(1), early(0))
	wantFired(t, m, pass, last(onTime(1)))
	wantState(t, m, State{2, 3, 0, true, true})

	m = create(t, Spec{Late: 1, Lateness: 5})
	wantFired(t, m, add(3))
	wantFired(t, m, pass, onTime(0))
	wantFired(t, m, add(1), late(1))
	wantFired(t, m, shut)
	wantState(t, m, State{2, 2, 0, true, true})

	m = create(t, Spec{Lateness: 5})
	wantFired(t, m, pass, onTime(0))
	wantFired(t, m, add(1))
	wantFired(t, m, shut, last(late(1)))
	wantState(t, m, State{2, 3, 0, true, true})
}

// P10.2 to P10.6: lives that are told by hand, with the state behind each call.
func TestLives(t *testing.T) {
	type step struct {
		act   act
		fired []pane.Info
		state State
	}
	none := []pane.Info{}
	one := func(p pane.Info) []pane.Info { return []pane.Info{p} }
	for _, c := range []struct {
		spec  Spec
		steps []step
	}{
		{Spec{}, []step{ // neither Early nor Late
			{add(1), none, State{0, 0, 1, false, false}}, {add(1000), none, State{0, 0, 1001, false, false}}, {add(999), none, State{0, 0, 2000, false, false}},
			{pass, one(last(onTime(0))), State{1, 3, 0, true, true}},
		}},
		{Spec{Early: 1}, []step{ // one by one and many at once
			{add(1), one(early(0)), State{1, 0, 0, false, false}}, {add(1000), one(early(1)), State{2, 0, 0, false, false}}, {add(1), one(early(2)), State{3, 0, 0, false, false}},
			{pass, one(last(onTime(3))), State{4, 3, 0, true, true}},
		}},
		{Spec{Early: 3, Lateness: 1, Accumulate: true}, []step{ // Early alone
			{add(2), none, State{0, 0, 2, false, false}}, {add(2), one(early(0)), State{1, 0, 0, false, false}}, {add(1), none, State{1, 0, 1, false, false}},
			{pass, one(onTime(1)), State{2, 1, 0, true, false}}, {add(4), none, State{2, 1, 4, true, false}}, {add(9), none, State{2, 1, 13, true, false}},
			{shut, one(last(late(2))), State{3, 3, 0, true, true}},
		}},
		{Spec{Late: 2, Lateness: api.MaxTime}, []step{ // Late alone
			{add(4), none, State{0, 0, 4, false, false}}, {add(1000), none, State{0, 0, 1004, false, false}},
			{pass, one(onTime(0)), State{1, 1, 0, true, false}}, {add(1), none, State{1, 1, 1, true, false}}, {add(1), one(late(1)), State{2, 2, 0, true, false}},
			{add(5), one(late(2)), State{3, 2, 0, true, false}}, {add(1), none, State{3, 2, 1, true, false}},
			{shut, one(last(late(3))), State{4, 3, 0, true, true}},
		}},
		{Spec{2, 3, 5, true}, []step{ // both
			{add(1), none, State{0, 0, 1, false, false}}, {add(1), one(early(0)), State{1, 0, 0, false, false}}, {add(1), none, State{1, 0, 1, false, false}},
			{pass, one(onTime(1)), State{2, 1, 0, true, false}}, {add(2), none, State{2, 1, 2, true, false}}, {add(1), one(late(2)), State{3, 2, 0, true, false}}, {add(3), one(late(3)), State{4, 2, 0, true, false}},
			{shut, none, State{4, 2, 0, true, true}},
		}},
		{Spec{Lateness: 3}, []step{ // nothing came at all
			{pass, one(onTime(0)), State{1, 1, 0, true, false}}, {shut, none, State{1, 1, 0, true, true}},
		}},
	} {
		for _, loads := range []bool{false, true} {
			m := create(t, c.spec)
			for _, s := range c.steps {
				wantFired(t, m, s.act, s.fired...)
				wantState(t, m, s.state)
				if loads {
					m = load(t, c.spec, s.state)
					wantState(t, m, s.state)
				}
			}
		}
	}
}

// P10.2: just as many fresh as Early asks for, one less, one more; at once, or in two parts; and nothing is fresh behind it.
func TestEnoughEarly(t *testing.T) {
	for _, enough := range []int{1, 2, 3, 500, 999, 1000} {
		for _, came := range []int{enough - 1, enough, enough + 1, 1, 1000} {
			for first := range came + 1 {
				if came > 3 && first > 2 && first < came-2 && first != enough {
					continue
				}
				wantEnough(t, create(t, Spec{Early: enough, Late: 1, Lateness: 1}), enough, early(0), first, came-first)
			}
		}
	}
}

// P10.2: just as many fresh as Late asks for, one less, one more.
func TestEnoughLate(t *testing.T) {
	for _, enough := range []int{1, 2, 3, 500, 999, 1000} {
		for _, came := range []int{enough - 1, enough, enough + 1, 1, 1000} {
			for first := range came + 1 {
				if came > 3 && first > 2 && first < came-2 && first != enough {
					continue
				}
				m := create(t, Spec{Early: 1, Late: enough, Lateness: 1})
				wantFired(t, m, pass, onTime(0))
				wantEnough(t, m, enough, late(1), first, came-first)
			}
		}
	}
}

// wantEnough: of values that come in parts, the pane is fired as soon as enough are fresh; what comes behind it begins at none.
func wantEnough(t *testing.T, m *Machine, enough int, next pane.Info, parts ...int) {
	t.Helper()
	fresh := 0
	for _, n := range parts {
		if n < 1 || n > 1000 {
			continue
		}
		fresh += n
		if fresh >= enough {
			wantFired(t, m, add(n), next)
			next.Index++
			fresh = 0
		} else {
			wantFired(t, m, add(n))
		}
		if m.State().Fresh != fresh || m.State().Next != next.Index {
			t.Fatalf("%d of %d: %v", fresh, enough, m.State())
		}
	}
}

// P10.2: without Early and Late no number of values fires anything; Early counts for nothing behind passing, Late for nothing ahead of it.
func TestNotAsked(t *testing.T) {
	m := create(t, Spec{Late: 1, Lateness: 1})
	for i := range 3 {
		wantFired(t, m, add(1000))
		wantState(t, m, State{Fresh: 1000 * (i + 1)})
	}
	m = create(t, Spec{Early: 1, Lateness: 1})
	wantFired(t, m, pass, onTime(0))
	for i := range 3 {
		wantFired(t, m, add(1000))
		wantState(t, m, State{1, 1, 1000 * (i + 1), true, false})
	}
}

// P10.2: more may be fresh than Early or Late asks for, of one that was loaded: what comes then fires one pane of all.
func TestMoreThanEnough(t *testing.T) {
	for _, fresh := range []int{1, 2, 3, 1000, 1 << 32, greatest - 1, greatest} {
		m := load(t, Spec{Early: 2}, State{Fresh: fresh})
		wantFired(t, m, add(1), early(0))
		wantState(t, m, State{1, 0, 0, false, false})
		m = load(t, Spec{Late: 2, Lateness: 1}, State{Next: 4, Stage: 2, Fresh: fresh, Passed: true})
		wantFired(t, m, add(1), late(4))
		wantState(t, m, State{5, 2, 0, true, false})
		m = load(t, Spec{}, State{Fresh: fresh})
		wantFired(t, m, add(1000))
		wantState(t, m, State{Fresh: fresh + 1000})
		wantFired(t, m, pass, last(onTime(0)))
		wantState(t, m, State{1, 3, 0, true, true})
	}
}

// ages are machines of a spec with Lateness that have not passed, have passed, and are closed, each with the errors of Add, Pass and Close there.
func ages(t *testing.T, s Spec) (all []*Machine, errors [][3]api.Errno) {
	t.Helper()
	for _, c := range []struct {
		acts   []act
		errors [3]api.Errno
	}{
		{nil, [3]api.Errno{0, 0, 100}}, {[]act{add(2)}, [3]api.Errno{0, 0, 100}}, {[]act{add(1), add(1)}, [3]api.Errno{0, 0, 100}},
		{[]act{pass}, [3]api.Errno{0, 200, 0}}, {[]act{add(1), pass}, [3]api.Errno{0, 200, 0}}, {[]act{pass, add(1)}, [3]api.Errno{0, 200, 0}}, {[]act{add(5), pass, add(2), add(1)}, [3]api.Errno{0, 200, 0}},
		{[]act{pass, shut}, [3]api.Errno{200, 200, 200}}, {[]act{add(1), pass, shut}, [3]api.Errno{200, 200, 200}}, {[]act{pass, add(1), shut}, [3]api.Errno{200, 200, 200}}, {[]act{add(5), pass, add(2), add(1), shut}, [3]api.Errno{200, 200, 200}},
	} {
		m := create(t, s)
		for _, a := range c.acts {
			if _, e := a.do(m); e != api.OK {
				t.Fatalf("%v of %v: %d", a, s, e)
			}
		}
		all, errors = append(all, m), append(errors, c.errors)
	}
	return all, errors
}

// P10.2 to P10.4: what each call refuses, ahead of passing, behind it and behind closing, changes nothing; of two errors the one that is named first is told.
func TestRefused(t *testing.T) {
	for _, s := range []Spec{{Lateness: 1}, {Early: 1, Lateness: 1}, {Early: 2, Late: 1, Lateness: 1}, {Early: 3, Late: 3, Lateness: 9, Accumulate: true}} {
		all, errors := ages(t, s)
		for i, m := range all {
			for _, values := range wrongValues() {
				wantRefused(t, m, add(values), api.ErrTrigger)
			}
			for k, a := range []act{add(1), pass, shut} {
				loaded := load(t, s, m.State())
				if e := errors[i][k]; e != api.OK {
					wantRefused(t, m, a, e)
					wantRefused(t, loaded, a, e)
				} else if _, e := a.do(loaded); e != api.OK {
					t.Errorf("%v of %v: %d", a, m.State(), e)
				}
			}
			wantRefused(t, m, add(1001), api.ErrTrigger)
		}
	}
}

// P10.2: 1 and 1000 values are taken, 0 and 1001 are not, ahead of passing and behind it.
func TestValues(t *testing.T) {
	m := create(t, Spec{Lateness: 1})
	for _, then := range []act{pass, shut} {
		was := m.State()
		wantRefused(t, m, add(0), api.ErrTrigger)
		wantRefused(t, m, add(1001), api.ErrTrigger)
		wantFired(t, m, add(1))
		wantFired(t, m, add(1000))
		was.Fresh += 1001
		wantState(t, m, was)
		if _, e := then.do(m); e != api.OK {
			t.Fatalf("%v: %d", then, e)
		}
	}
	wantRefused(t, m, add(1), api.ErrClosed)
	wantRefused(t, m, add(1000), api.ErrClosed)
	wantRefused(t, m, add(1001), api.ErrTrigger)
}

// P10.3: passing fires, whether anything is fresh or not; without Lateness that is the end.
func TestPass(t *testing.T) {
	for _, fresh := range []int{0, 1, 7, 1000} {
		for _, next := range []int{0, 1, 5, greatest} {
			is := State{Next: next, Fresh: fresh}
			m := load(t, Spec{Early: 3}, is)
			wantFired(t, m, pass, last(onTime(next)))
			wantState(t, m, State{next + 1, 3, 0, true, true})
			wantRefused(t, m, pass, api.ErrClosed)
			wantRefused(t, m, shut, api.ErrClosed)
			wantRefused(t, m, add(1), api.ErrClosed)
			for _, lateness := range []int{1, 2, api.MaxTime} {
				m = load(t, Spec{Early: 3, Lateness: lateness}, is)
				wantFired(t, m, pass, onTime(next))
				wantState(t, m, State{next + 1, 1, 0, true, false})
				wantRefused(t, m, pass, api.ErrClosed)
				wantFired(t, m, add(3))
			}
		}
	}
}

// P10.4: closing fires just what is fresh, behind passing and no second time.
func TestClose(t *testing.T) {
	for _, lates := range []int{0, 1, 3, 1000} {
		s := Spec{Early: 1, Late: lates, Lateness: 4}
		for _, next := range []int{0, 1, 5} {
			m := load(t, s, State{Next: next, Fresh: 2})
			wantRefused(t, m, shut, api.ErrTrigger)
			wantFired(t, m, pass, onTime(next))
			wantFired(t, m, shut)
			wantState(t, m, State{next + 1, 1, 0, true, true})
			wantRefused(t, m, shut, api.ErrClosed)
			for stage := 1; stage < 3 && next > 0; stage++ {
				m = load(t, s, State{next, stage, 0, true, false})
				wantFired(t, m, shut)
				wantState(t, m, State{next, stage, 0, true, true})
				for _, fresh := range []int{1, 2, 1000, greatest} {
					m = load(t, s, State{next, stage, fresh, true, false})
					wantFired(t, m, shut, last(late(next)))
					wantState(t, m, State{next + 1, 3, 0, true, true})
					wantRefused(t, m, shut, api.ErrClosed)
					wantRefused(t, m, add(1), api.ErrClosed)
					wantRefused(t, m, pass, api.ErrClosed)
				}
			}
		}
	}
}

// P10.2, P10.4, P10.5: one that was loaded as Over, but not as closed, fires nothing more: no pane follows a Last one.
func TestLoadedOver(t *testing.T) {
	for _, s := range []Spec{{}, {Lateness: 1}, {Late: 1, Lateness: 1}} {
		m := load(t, s, State{3, 3, 0, true, false})
		wantFired(t, m, add(2))
		wantFired(t, m, add(3))
		wantState(t, m, State{3, 3, 5, true, false})
		wantRefused(t, m, pass, api.ErrClosed)
		wantFired(t, m, shut)
		wantState(t, m, State{3, 3, 5, true, true})
		wantRefused(t, m, shut, api.ErrClosed)
	}
}
