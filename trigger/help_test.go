package trigger

import (
	"math"
	"slices"
	"testing"

	"watershed/api"
	"watershed/pane"
)

const (
	least    = math.MinInt
	most     = math.MaxInt
	greatest = 1 << 40 // the greatest Next and Fresh of Load
)

func early(index int) pane.Info  { return pane.Info{Index: index, Timing: 0} }
func onTime(index int) pane.Info { return pane.Info{Index: index, Timing: 1} }
func late(index int) pane.Info   { return pane.Info{Index: index, Timing: 2} }
func last(p pane.Info) pane.Info { return pane.Info{Index: p.Index, Timing: p.Timing, Last: true} }

// wrongValues are no numbers of values that may come at once.
func wrongValues() []int {
	return []int{0, -1, -2, -1000, 1001, 1002, 1 << 32, 1<<32 + 1, -1<<32 + 1, least, least + 1, most - 1, most}
}

// create tells a new machine.
func create(t *testing.T, s Spec) *Machine {
	t.Helper()
	m, e := New(s)
	if m == nil || e != api.OK {
		t.Fatalf("New(%v): %v, %d", s, m, e)
	}
	return m
}

// load tells a machine that is so.
func load(t *testing.T, s Spec, is State) *Machine {
	t.Helper()
	m, e := Load(s, is)
	if m == nil || e != api.OK {
		t.Fatalf("Load(%v, %v): %v, %d", s, is, m, e)
	}
	return m
}

// An act is one call of a machine.
type act struct {
	name   string
	values int // of add
}

func add(values int) act { return act{"add", values} }

var (
	pass = act{"pass", 0}
	shut = act{"close", 0}
)

func (a act) do(m *Machine) ([]pane.Info, api.Errno) {
	switch a.name {
	case "pass":
		return m.Pass()
	case "close":
		return m.Close()
	}
	return m.Add(a.values)
}

// wantFired: the machine does it, and tells just these panes.
func wantFired(t *testing.T, m *Machine, a act, want ...pane.Info) {
	t.Helper()
	was := m.State()
	got, e := a.do(m)
	if e != api.OK || !slices.Equal(got, want) {
		t.Fatalf("%v of %v: %v, %d; want %v", a, was, got, e, want)
	}
}

// wantRefused: the machine refuses it, tells no pane, and is what it was.
func wantRefused(t *testing.T, m *Machine, a act, want api.Errno) {
	t.Helper()
	was := m.State()
	got, e := a.do(m)
	if e != want || len(got) != 0 {
		t.Fatalf("%v of %v: %v, %d; want %d", a, was, got, e, want)
	}
	wantState(t, m, was)
}

func wantState(t *testing.T, m *Machine, want State) {
	t.Helper()
	if got := m.State(); got != want {
		t.Fatalf("it is %v; want %v", got, want)
	}
}

// wantJoin: one machine joins the other, or is refused; what comes of it stands in the first one alone.
func wantJoin(t *testing.T, m, other *Machine, want api.Errno) {
	t.Helper()
	was, others := m.State(), other.State()
	if e := m.Join(other); e != want {
		t.Fatalf("Join of %v and %v: %d; want %d", was, others, e, want)
	}
	if want == api.OK {
		was.Fresh += others.Fresh
	}
	wantState(t, m, was)
	if m != other {
		wantState(t, other, others)
	}
}

// specs are right ones: with Early, with Late, with both and with neither; with Lateness and without; a few, and the ends.
func specs() []Spec {
	var all []Spec
	for _, earlies := range []int{0, 1, 2, 3, 1000} {
		for _, lates := range []int{0, 1, 2, 3, 1000} {
			for _, lateness := range []int{0, 1, 5, api.MaxTime} {
				if lates == 0 || lateness > 0 {
					all = append(all, Spec{earlies, lates, lateness, lateness%2 == 0})
				}
			}
		}
	}
	return all
}

// grow does something with each row of acts up to so many.
func grow(many int, acts []act, do func([]act)) {
	rows := [][]act{{}}
	for range many {
		var longer [][]act
		for _, row := range rows {
			for _, a := range acts {
				longer = append(longer, append(slices.Clone(row), a))
			}
		}
		rows = longer
	}
	for _, row := range rows {
		do(row)
	}
}
