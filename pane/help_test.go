package pane

import (
	"math"
	"slices"
	"testing"

	"watershed/api"
)

const (
	least    = math.MinInt
	most     = math.MaxInt
	greatest = 1 << 40 // the greatest next of Load
)

func early(index int) Info  { return Info{Index: index, Timing: 0} }
func onTime(index int) Info { return Info{Index: index, Timing: 1} }
func late(index int) Info   { return Info{Index: index, Timing: 2} }
func last(p Info) Info      { return Info{p.Index, p.Timing, true} }

// wrongTimings are none of the three.
func wrongTimings() []int { return []int{-1, -2, 3, 4, 1 << 32, 1<<32 + 1, least, most} }

// plainRight: do panes follow one another rightly, as the chapter says it? It holds each pane against each other one.
func plainRight(panes []Info) bool {
	for i, p := range panes {
		if p.Index != i || p.Timing != 0 && p.Timing != 1 && p.Timing != 2 {
			return false
		}
		for _, q := range panes[:i] {
			earlyBehind := p.Timing == 0 && q.Timing != 0
			twiceOnTime := p.Timing == 1 && q.Timing == 1
			onTimeBehind := p.Timing == 1 && q.Timing == 2
			if earlyBehind || twiceOnTime || onTimeBehind || q.Last {
				return false
			}
		}
	}
	return true
}

// plainCheck tells how many panes from the first on follow one another rightly.
func plainCheck(panes []Info) (int, api.Errno) {
	for n := range panes {
		if !plainRight(panes[:n+1]) {
			return n, 90
		}
	}
	return len(panes), 0
}

// plainStage tells the stage of a line that fired these: what came counts, the greatest of it.
func plainStage(panes []Info) int {
	stage := 0
	for _, p := range panes {
		stage = max(stage, p.Timing)
		if p.Last {
			return 3
		}
	}
	return stage
}

// grow lays each of the panes that next tells for a place behind each row, up to so many places, and does something with each row that comes of it, the empty one too.
func grow(places int, next func(place int) []Info, do func([]Info)) {
	rows := [][]Info{{}}
	for place := range places + 1 {
		var longer [][]Info
		for _, row := range rows {
			do(row)
			if place == places {
				continue
			}
			for _, p := range next(place) {
				longer = append(longer, append(slices.Clone(row), p))
			}
		}
		rows = longer
	}
}

// fired tells a line that has fired these, one by one.
func fired(t *testing.T, panes ...Info) *Line {
	t.Helper()
	l := New()
	for _, p := range panes {
		wantFire(t, l, p)
	}
	return l
}

// wantFire: the line fires just this pane, which is fired then.
func wantFire(t *testing.T, l *Line, want Info) {
	t.Helper()
	got, e := l.Fire(want.Timing, want.Last)
	if e != api.OK || got != want {
		t.Fatalf("Fire(%d, %v): %v, %d; want %v", want.Timing, want.Last, got, e, want)
	}
	if l.Next() != want.Index+1 {
		t.Fatalf("Next behind %v: %d", want, l.Next())
	}
}

// wantRefused: the line fires no such pane, and is what it was.
func wantRefused(t *testing.T, l *Line, timing int, ends bool) {
	t.Helper()
	next, stage := l.Next(), l.Stage()
	got, e := l.Fire(timing, ends)
	if e != api.ErrPane || got != (Info{}) {
		t.Fatalf("in stage %d, Fire(%d, %v): %v, %d", stage, timing, ends, got, e)
	}
	wantLine(t, l, next, stage)
}

func wantLine(t *testing.T, l *Line, next, stage int) {
	t.Helper()
	if l.Next() != next || l.Stage() != stage {
		t.Fatalf("next %d in stage %d; want %d in %d", l.Next(), l.Stage(), next, stage)
	}
}

func wantCheck(t *testing.T, panes []Info, want int, wantError api.Errno) {
	t.Helper()
	if at, e := Check(panes...); at != want || e != wantError {
		t.Errorf("Check(%v): %d, %d; want %d, %d", panes, at, e, want, wantError)
	}
}
