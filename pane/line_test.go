package pane

import (
	"math/rand"
	"testing"

	"watershed/api"
)

// The timings and the stages have the chapter's numbers.
func TestNumbers(t *testing.T) {
	if Early != 0 || OnTime != 1 || Late != 2 {
		t.Errorf("timings: %d %d %d", Early, OnTime, Late)
	}
	if Fresh != 0 || Passed != 1 || Behind != 2 || Over != 3 {
		t.Errorf("stages: %d %d %d %d", Fresh, Passed, Behind, Over)
	}
}

// P9.1: a line without a pane is Fresh, and its next pane is the first one.
func TestNew(t *testing.T) {
	wantLine(t, New(), 0, 0)
	for timing := range 3 {
		for _, ends := range []bool{false, true} {
			wantFire(t, New(), Info{0, timing, ends})
		}
	}
}

// P9.1: the chapter's own examples of lines.
func TestExamples(t *testing.T) {
	l := New()
	for _, p := range []Info{early(0), early(1), onTime(2), last(late(3))} {
		wantFire(t, l, p)
	}
	for timing := range 3 {
		wantRefused(t, l, timing, false)
		wantRefused(t, l, timing, true)
	}
	l = New()
	wantFire(t, l, onTime(0))
	wantRefused(t, l, Early, false)
}

// P9.1: lines that are told by hand, with the stage behind each pane.
func TestLines(t *testing.T) {
	for _, c := range []struct {
		panes  []Info
		stages []int
	}{
		{[]Info{early(0), early(1), early(2)}, []int{Fresh, Fresh, Fresh}},
		{[]Info{early(0), onTime(1), late(2), last(late(3))}, []int{Fresh, Passed, Behind, Over}},
		{[]Info{onTime(0), late(1), late(2)}, []int{Passed, Behind, Behind}},
		{[]Info{late(0), late(1), last(late(2))}, []int{Behind, Behind, Over}},
		{[]Info{early(0), late(1), late(2)}, []int{Fresh, Behind, Behind}},
		{[]Info{early(0), early(1), last(early(2))}, []int{Fresh, Fresh, Over}},
		{[]Info{early(0), last(onTime(1))}, []int{Fresh, Over}},
		{[]Info{onTime(0), last(late(1))}, []int{Passed, Over}},
		{[]Info{last(early(0))}, []int{Over}},
		{[]Info{last(onTime(0))}, []int{Over}},
		{[]Info{last(late(0))}, []int{Over}},
	} {
		l := New()
		for i, p := range c.panes {
			wantFire(t, l, p)
			wantLine(t, l, i+1, c.stages[i])
		}
		wantCheck(t, c.panes, len(c.panes), api.OK)
	}
}

// P9.1: what each stage lets follow, Last or not: of a line that came there by firing, by each of the panes that lead there, and of one that was loaded there.
func TestEachStage(t *testing.T) {
	ways := [][][]Info{
		Fresh:  {{}, {early(0)}, {early(0), early(1)}},
		Passed: {{onTime(0)}, {early(0), onTime(1)}},
		Behind: {{late(0)}, {early(0), late(1)}, {onTime(0), late(1)}, {early(0), onTime(1), late(2), late(3)}},
		Over:   {{last(early(0))}, {last(onTime(0))}, {last(late(0))}, {early(0), last(early(1))}, {early(0), last(onTime(1))}, {onTime(0), last(late(1))}, {late(0), last(late(1))}, {early(0), last(late(1))}},
	}
	follow := [][]bool{Fresh: {true, true, true}, Passed: {false, false, true}, Behind: {false, false, true}, Over: {false, false, false}}
	behind := []int{Early: Fresh, OnTime: Passed, Late: Behind}
	for stage, lines := range ways {
		for _, panes := range lines {
			for timing := range 3 {
				for _, ends := range []bool{false, true} {
					loaded, e := Load(len(panes), stage)
					if e != api.OK {
						t.Fatalf("Load(%d, %d): %d", len(panes), stage, e)
					}
					for _, l := range []*Line{fired(t, panes...), loaded} {
						wantLine(t, l, len(panes), stage)
						if !follow[stage][timing] {
							wantRefused(t, l, timing, ends)
							continue
						}
						wantFire(t, l, Info{len(panes), timing, ends})
						want := behind[timing]
						if ends {
							want = Over
						}
						wantLine(t, l, len(panes)+1, want)
					}
				}
			}
		}
	}
}

// P9.1: nothing is behind a Last one, whichever timing it has, however often it is asked for.
func TestNothingBehindLast(t *testing.T) {
	for timing := range 3 {
		l := fired(t, early(0), Info{1, timing, true})
		for range 3 {
			for next := range 3 {
				wantRefused(t, l, next, false)
				wantRefused(t, l, next, true)
			}
		}
		wantLine(t, l, 2, Over)
	}
}

// P9.1: an OnTime pane comes once, and only ahead of Late ones; an Early one ahead of both.
func TestOrder(t *testing.T) {
	l := fired(t, early(0), onTime(1))
	wantRefused(t, l, OnTime, false)
	wantRefused(t, l, OnTime, true)
	wantRefused(t, l, Early, false)
	wantFire(t, l, late(2))
	wantRefused(t, l, OnTime, false)
	wantRefused(t, l, Early, true)
	wantFire(t, l, late(3))
	l = fired(t, late(0))
	wantRefused(t, l, Early, false)
	wantRefused(t, l, Early, true)
	wantRefused(t, l, OnTime, false)
	wantRefused(t, l, OnTime, true)
	wantFire(t, l, late(1))
}

// P9.1: what is none of the three timings is refused in each stage, ahead of and behind what may be.
func TestWrongTimings(t *testing.T) {
	for _, timing := range wrongTimings() {
		for _, ends := range []bool{false, true} {
			l := New()
			for i, p := range []Info{early(0), early(1), onTime(2), late(3), late(4), last(late(5))} {
				wantRefused(t, l, timing, ends)
				wantLine(t, l, i, plainStage([]Info{early(0), early(1), onTime(2), late(3), late(4)}[:i]))
				wantFire(t, l, p)
			}
			wantRefused(t, l, timing, ends)
			wantLine(t, l, 6, Over)
		}
	}
}

// tries are all that may be asked of Fire, timings at both ends past what may be, too.
func tries(int) []Info {
	var all []Info
	for timing := -1; timing < 4; timing++ {
		all = append(all, Info{0, timing, false}, Info{0, timing, true})
	}
	return all
}

// wantPlain: a line of which these are asked fires just those that can follow what it fired; Check finds them right.
func wantPlain(t *testing.T, asked []Info) {
	t.Helper()
	l := New()
	var came []Info
	for _, p := range asked {
		p.Index = len(came)
		if plainRight(append(came[:len(came):len(came)], p)) {
			wantFire(t, l, p)
			came = append(came, p)
		} else {
			wantRefused(t, l, p.Timing, p.Last)
		}
		wantLine(t, l, len(came), plainStage(came))
	}
	wantCheck(t, came, len(came), api.OK)
}

// P9.1, P9.3: of all rows of tries a line fires those that the chapter lets follow, and they are right, whatever was refused between.
func TestLinesPlain(t *testing.T) {
	grow(4, tries, func(asked []Info) { wantPlain(t, asked) })
	r := rand.New(rand.NewSource(91))
	all := tries(0)
	for i := range 3000 {
		var asked []Info
		for range i % 40 {
			p := all[r.Intn(len(all))]
			p.Last = p.Last && r.Intn(10) == 0
			if r.Intn(3) > 0 {
				p.Timing = min(Early, p.Timing)
			}
			asked = append(asked, p)
		}
		wantPlain(t, asked)
	}
}

// P9.1: a line of many panes has the numbers without a gap.
func TestLongLine(t *testing.T) {
	const many = 100_000
	l := New()
	for i := range 3 * many {
		switch {
		case i < many:
			wantFire(t, l, early(i))
		case i == many:
			wantFire(t, l, onTime(i))
		default:
			wantFire(t, l, late(i))
		}
	}
	wantFire(t, l, last(late(3*many)))
	wantLine(t, l, 3*many+1, Over)
}

// P9.1: two lines have nothing in common, whichever calls they come from.
func TestLinesApart(t *testing.T) {
	makers := []func() *Line{New, func() *Line { l, _ := Load(0, Fresh); return l }}
	for _, first := range makers {
		for _, second := range makers {
			one, other := first(), second()
			wantFire(t, one, early(0))
			wantFire(t, one, onTime(1))
			wantLine(t, other, 0, Fresh)
			wantFire(t, other, last(early(0)))
			wantLine(t, one, 2, Passed)
			third := first()
			wantLine(t, third, 0, Fresh)
			wantFire(t, one, late(2))
			wantRefused(t, other, Late, false)
			wantFire(t, third, onTime(0))
			wantLine(t, one, 3, Behind)
			wantLine(t, other, 1, Over)
			wantLine(t, third, 1, Passed)
		}
	}
}

// P9.1: lines that are fired in turns go on each by itself, and a pane that was told stays as it is.
func TestLinesInTurns(t *testing.T) {
	var lines []*Line
	for range 5 {
		lines = append(lines, New())
	}
	told, _ := lines[0].Fire(Early, false)
	for i := range 20 {
		for j, l := range lines {
			if j > 0 && i < 4*j {
				wantFire(t, l, early(i))
			} else if j > 0 {
				wantFire(t, l, late(i))
			}
		}
	}
	wantLine(t, lines[0], 1, Fresh)
	for _, l := range lines[1:] {
		wantLine(t, l, 20, Behind)
	}
	wantFire(t, lines[0], last(onTime(1)))
	if told != early(0) {
		t.Errorf("told: %v", told)
	}
}
