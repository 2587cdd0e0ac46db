package trigger

import (
	"math/rand"
	"slices"
	"testing"

	"watershed/api"
	"watershed/pane"
)

// A diary is a machine as the chapter says it, set down a second time: it keeps nothing but what happened, in order, and works all out from that.
type diary struct {
	spec   Spec
	events []event
}

// An event is one call that was not refused: so many values came, or it passed, or was closed; and what was fired then.
type event struct {
	values        int
	passed, shut  bool
	fired         bool
	timing, index int
	last          bool
}

func (d *diary) any(is func(event) bool) bool { return slices.ContainsFunc(d.events, is) }
func (d *diary) passed() bool                 { return d.any(func(e event) bool { return e.passed }) }
func (d *diary) closed() bool {
	return d.any(func(e event) bool { return e.shut || e.passed && d.spec.Lateness == 0 })
}

// panes tells what it fired up to now.
func (d *diary) panes() []pane.Info {
	var all []pane.Info
	for _, e := range d.events {
		if e.fired {
			all = append(all, pane.Info{Index: e.index, Timing: e.timing, Last: e.last})
		}
	}
	return all
}

// fresh tells how many values came behind the last pane.
func (d *diary) fresh() int {
	many := 0
	for _, e := range slices.Backward(d.events) {
		if e.fired {
			break
		}
		many += e.values
	}
	return many
}

// stage tells what came, as chapter 9 says it.
func (d *diary) stage() int {
	stage := 0
	for _, p := range d.panes() {
		stage = max(stage, p.Timing)
		if p.Last {
			stage = 3
		}
	}
	return stage
}

func (d *diary) state() State {
	return State{len(d.panes()), d.stage(), d.fresh(), d.passed(), d.closed()}
}

// refuses tells the error of an act, as P10.2 to P10.4 name them.
func (d *diary) refuses(a act) api.Errno {
	switch {
	case a.name == "add" && (a.values < 1 || a.values > 1000):
		return 100
	case a.name == "add" && d.closed():
		return 200
	case a.name == "pass" && d.passed():
		return 200
	case a.name == "close" && !d.passed():
		return 100
	case a.name == "close" && d.closed():
		return 200
	}
	return 0
}

// do tells what an act comes to.
func (d *diary) do(a act) ([]pane.Info, api.Errno) {
	if e := d.refuses(a); e != 0 {
		return nil, e
	}
	e := event{values: a.values, passed: a.name == "pass", shut: a.name == "close", index: len(d.panes())}
	fresh := d.fresh() + a.values
	switch {
	case e.passed:
		e.fired, e.timing, e.last = true, 1, d.spec.Lateness == 0
	case e.shut && fresh > 0:
		e.fired, e.timing, e.last = true, 2, true
	case a.name == "add" && !d.passed() && d.spec.Early != 0 && fresh >= d.spec.Early:
		e.fired, e.timing = true, 0
	case a.name == "add" && d.passed() && d.spec.Late != 0 && fresh >= d.spec.Late:
		e.fired, e.timing = true, 2
	}
	d.events = append(d.events, e)
	if e.fired {
		return d.panes()[e.index:], 0
	}
	return nil, 0
}

// wantAlike does the acts with a machine, with its diary, and at each point with one that is loaded there: all three come to the same.
func wantAlike(t *testing.T, s Spec, acts []act) (fired int) {
	t.Helper()
	m, d := create(t, s), &diary{spec: s}
	for i, a := range acts {
		loaded := load(t, s, m.State())
		want, wantError := d.do(a)
		for _, each := range []*Machine{m, loaded} {
			if got, e := a.do(each); e != wantError || !slices.Equal(got, want) {
				t.Fatalf("%v, %v at %d: %v, %d; want %v, %d", s, acts, i, got, e, want, wantError)
			}
			wantState(t, each, d.state())
		}
	}
	panes := d.panes()
	if at, e := pane.Check(panes...); at != len(panes) || e != api.OK {
		t.Fatalf("%v, %v: the panes %v don't follow one another rightly", s, acts, panes)
	}
	return len(panes)
}

// P10.1 to P10.6: all short rows of calls, those that are refused among them, come to what the chapter says, of each spec; what was fired follows one another rightly; one that is loaded at any point goes on alike.
func TestPlain(t *testing.T) {
	fired := map[int]int{}
	for _, s := range specs() {
		grow(4, []act{add(1), add(2), add(1000), add(0), add(1001), pass, shut}, func(acts []act) { fired[wantAlike(t, s, acts)]++ })
	}
	for many := range 5 {
		if fired[many] == 0 {
			t.Errorf("no row fires %d panes: %v", many, fired)
		}
	}
}

// P10.1 to P10.6: so do long ones.
func TestPlainLong(t *testing.T) {
	r := rand.New(rand.NewSource(101))
	fired := 0
	for i := range 3000 {
		s := Spec{Early: r.Intn(5) * r.Intn(400) % 1001, Lateness: r.Intn(2) * (1 + r.Intn(api.MaxTime)), Accumulate: r.Intn(2) == 0}
		if s.Lateness > 0 {
			s.Late = r.Intn(5) * r.Intn(400) % 1001
		}
		rare := 10 + i%60
		var acts []act
		for range 60 {
			switch n := r.Intn(rare); n {
			case 0:
				acts = append(acts, pass)
			case 1:
				acts = append(acts, shut)
			case 2:
				acts = append(acts, add(wrongValues()[r.Intn(len(wrongValues()))]))
			default:
				acts = append(acts, add(1+r.Intn(1000)/(1+n*r.Intn(n))))
			}
		}
		fired += wantAlike(t, s, acts)
	}
	if fired < 3000 {
		t.Errorf("only %d panes", fired)
	}
}
