package pane

import (
	"testing"

	"watershed/api"
)

// nexts are at the ends of what next may be, and past them.
func nexts() []int {
	return []int{0, 1, 2, 7, 1 << 31, 1 << 32, greatest - 1, greatest, -1, -2, -greatest, least, least + 1, greatest + 1, greatest + 2, 1 << 41, 1 << 62, most - 1, most}
}

// stages are the four, and others.
func stages() []int {
	return []int{0, 1, 2, 3, -1, -2, 4, 5, 1 << 32, 1<<32 + 1, least, most}
}

// P9.2: a line is loaded just where the chapter says so; it has fired so many panes, and is in that stage.
func TestLoad(t *testing.T) {
	right := 0
	for _, next := range nexts() {
		for _, stage := range stages() {
			l, e := Load(next, stage)
			wrong := next < 0 || next > 1<<40 || stage != 0 && stage != 1 && stage != 2 && stage != 3 || next == 0 && stage != 0
			if wrong {
				if l != nil || e != api.ErrPane {
					t.Errorf("Load(%d, %d): %v, %d", next, stage, l, e)
				}
				continue
			}
			right++
			if l == nil || e != api.OK {
				t.Fatalf("Load(%d, %d): %v, %d", next, stage, l, e)
			}
			wantLine(t, l, next, stage)
		}
	}
	if right != 1+4*7 {
		t.Errorf("%d are loaded", right)
	}
}

// P9.2: the edges that the chapter names, told by hand.
func TestLoadEdges(t *testing.T) {
	for _, c := range []struct {
		next, stage int
		want        api.Errno
	}{
		{0, Fresh, api.OK}, {0, Passed, api.ErrPane}, {0, Behind, api.ErrPane}, {0, Over, api.ErrPane},
		{1, Fresh, api.OK}, {1, Passed, api.OK}, {1, Behind, api.OK}, {1, Over, api.OK},
		{1099511627776, Fresh, api.OK}, {1099511627776, Passed, api.OK}, {1099511627776, Behind, api.OK}, {1099511627776, Over, api.OK},
		{1099511627777, Fresh, api.ErrPane}, {1099511627777, Passed, api.ErrPane}, {1099511627777, Behind, api.ErrPane}, {1099511627777, Over, api.ErrPane},
		{-1, Fresh, api.ErrPane}, {-1, Over, api.ErrPane}, {most, Fresh, api.ErrPane}, {least, Behind, api.ErrPane},
		{5, -1, api.ErrPane}, {5, 4, api.ErrPane}, {0, -1, api.ErrPane}, {0, 4, api.ErrPane}, {5, least, api.ErrPane}, {5, most, api.ErrPane}, {-1, 4, api.ErrPane},
	} {
		l, e := Load(c.next, c.stage)
		if e != c.want || (l == nil) != (e != api.OK) {
			t.Errorf("Load(%d, %d): %v, %d", c.next, c.stage, l, e)
		}
	}
}

// P9.2: a line that was loaded goes on with that Index and in that stage, at the greatest next too.
func TestLoadedGoesOn(t *testing.T) {
	for _, next := range []int{1, 2, 100, 1<<32 - 1, greatest - 1, greatest} {
		for stage, panes := range [][]Info{
			Fresh:  {early(next), early(next + 1), onTime(next + 2), late(next + 3), last(late(next + 4))},
			Passed: {late(next), late(next + 1), last(late(next + 2))},
			Behind: {late(next), last(late(next + 1))},
			Over:   {},
		} {
			l, e := Load(next, stage)
			if e != api.OK {
				t.Fatalf("Load(%d, %d): %d", next, stage, e)
			}
			for timing := range stage {
				if timing != Late {
					wantRefused(t, l, timing, false)
				}
			}
			for _, p := range panes {
				wantFire(t, l, p)
			}
			for timing := range 3 {
				wantRefused(t, l, timing, false)
				wantRefused(t, l, timing, true)
			}
			wantLine(t, l, next+len(panes), Over)
		}
	}
}

// P9.1, P9.2: at each point of any line another one is loaded as it is: both go on alike, and apart.
func TestLoadedAlike(t *testing.T) {
	grow(4, tries, func(asked []Info) {
		l := New()
		for _, p := range asked {
			loaded, e := Load(l.Next(), l.Stage())
			if e != api.OK {
				t.Fatalf("Load(%d, %d): %d", l.Next(), l.Stage(), e)
			}
			next, stage := l.Next(), l.Stage()
			got, e := loaded.Fire(p.Timing, p.Last)
			wantLine(t, l, next, stage)
			want, wantError := l.Fire(p.Timing, p.Last)
			if got != want || e != wantError {
				t.Fatalf("behind %d in stage %d: %v, %d; want %v, %d", next, stage, got, e, want, wantError)
			}
			wantLine(t, loaded, l.Next(), l.Stage())
		}
	})
}
