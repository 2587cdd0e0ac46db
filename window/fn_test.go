package window

import (
	"math/rand"
	"testing"

	"watershed/api"
)

// The kinds have the chapter's numbers.
func TestKinds(t *testing.T) {
	if Global != 0 || Fixed != 1 || Sliding != 2 || Sessions != 3 {
		t.Errorf("%d %d %d %d", Global, Fixed, Sliding, Sessions)
	}
}

// P7.1: each kind at both ends of what its fields may be, and one past.
func TestCheckFn(t *testing.T) {
	const end = api.MaxTime
	for _, f := range append(rightFns(), Fn{}, fixed(10, 3), fixed(10, 9), sliding(10, 5, 4), sliding(160, 10, 9), sessions(7)) {
		if e := f.Check(); e != api.OK {
			t.Errorf("%v: %d", f, e)
		}
	}
	for _, f := range []Fn{
		{Global, 1, 0, 0}, {Global, 0, 1, 0}, {Global, 0, 0, 1}, {Global, -1, 0, 0}, {Global, 0, -1, 0}, {Global, 0, 0, -1}, {Global, end + 1, 0, 0}, {Global, 10, 10, 3},
		fixed(0, 0), fixed(-1, 0), fixed(0, -1), fixed(end+1, 0), fixed(end+1, end), fixed(10, -1), fixed(10, 10), fixed(1, 1), fixed(end, end), {Fixed, 10, 10, 3}, {Fixed, 10, 1, 0}, {Fixed, 10, -1, 0}, fixed(most, 0), fixed(least, 0), fixed(least, most), fixed(10, least), fixed(10, most),
		sliding(0, 0, 0), sliding(10, 0, 0), sliding(10, -1, 0), sliding(0, 1, 0), sliding(4, 5, 0), sliding(-1, 1, 0), sliding(17, 1, 0), sliding(33, 2, 0), sliding(161, 10, 0), sliding(10, 5, -1), sliding(10, 5, 5), sliding(1, 1, 1), sliding(end+1, end, 0), sliding(end+1, end+1, 0), sliding(end, end+1, 0), sliding(end, end/16-1, 0), sliding(end+1, end/16+1, 0), sliding(end, end, end),
		sliding(most, most, 0), sliding(least, least, 0), sliding(least, 1, 0), sliding(16, 1<<60, 0), sliding(16, 1<<60+1, 0), sliding(0, 1<<60, 0), sliding(16, least, 0), sliding(10, 5, least), sliding(10, 5, most), sliding(10, -5, -6),
		sessions(0), sessions(-1), sessions(end + 1), sessions(most), sessions(least), {Sessions, 5, 1, 0}, {Sessions, 5, 0, 1}, {Sessions, 5, -1, 0}, {Sessions, 5, 0, -1}, {Sessions, 5, 5, 4},
		{4, 0, 0, 0}, {4, 10, 5, 0}, {-1, 0, 0, 0}, {-1, 10, 5, 0}, {5, 10, 0, 0}, {most, 10, 0, 0}, {least, 0, 0, 0}, {1 << 32, 0, 0, 0},
	} {
		if e := f.Check(); e != api.ErrWindow {
			t.Errorf("%v: %d", f, e)
		}
	}
}

// P7.1, P7.4: all windowings of numbers at the edges are right just where the chapter says so; what isn't right is refused by all calls, whatever else is handed in.
func TestEveryFn(t *testing.T) {
	rights := map[int]int{}
	everyFn(func(f Fn) {
		right := plainFn(f)
		if (f.Check() == api.OK) != right || f.Check() != api.OK && f.Check() != api.ErrWindow {
			t.Fatalf("%v: %d", f, f.Check())
		}
		if right {
			rights[f.Kind]++
			return
		}
		for _, n := range []int{0, 5, -1, api.MaxTime + 1} {
			got, e := f.Assign(n)
			if e != api.ErrWindow || got != nil {
				t.Fatalf("%v: Assign(%d): %v, %d", f, n, got, e)
			}
		}
		for _, w := range []Window{{0, 10}, {}} {
			got, e := f.Side(w)
			if e != api.ErrWindow || got != (Window{}) {
				t.Fatalf("%v: Side(%v): %v, %d", f, w, got, e)
			}
		}
	})
	if rights[Global] != 1 || rights[Fixed] < 100 || rights[Sliding] < 500 || rights[Sessions] < 20 {
		t.Errorf("too few right ones: %v", rights)
	}
}

// P7.1: windows that are told by hand.
func TestAssign(t *testing.T) {
	const end = api.MaxTime
	var sixteen, below []Window
	for i := range 16 {
		sixteen = append(sixteen, Window{85 + i, 101 + i})
		below = append(below, Window{i - 15, i + 1})
	}
	for _, c := range []struct {
		f    Fn
		t    int
		want []Window
	}{
		{Fn{}, 0, []Window{{0, end + 1}}}, {Fn{}, 5, []Window{{0, end + 1}}}, {Fn{}, end, []Window{{0, end + 1}}},
		{fixed(10, 3), 2, []Window{{-7, 3}}}, {fixed(10, 3), 3, []Window{{3, 13}}}, {fixed(10, 3), 12, []Window{{3, 13}}}, {fixed(10, 3), 13, []Window{{13, 23}}}, {fixed(10, 3), 0, []Window{{-7, 3}}},
		{fixed(10, 0), 0, []Window{{0, 10}}}, {fixed(10, 0), 9, []Window{{0, 10}}}, {fixed(10, 0), 10, []Window{{10, 20}}}, {fixed(10, 9), 0, []Window{{-1, 9}}}, {fixed(10, 9), 8, []Window{{-1, 9}}}, {fixed(10, 9), 9, []Window{{9, 19}}}, {fixed(10, 1), 0, []Window{{-9, 1}}},
		{fixed(1, 0), 0, []Window{{0, 1}}}, {fixed(1, 0), end, []Window{{end, end + 1}}}, {fixed(end, 0), 0, []Window{{0, end}}}, {fixed(end, 0), end - 1, []Window{{0, end}}}, {fixed(end, 0), end, []Window{{end, 2 * end}}}, {fixed(end, 1), 0, []Window{{1 - end, 1}}}, {fixed(end, 1), end, []Window{{1, end + 1}}}, {fixed(end, end-1), 0, []Window{{-1, end - 1}}}, {fixed(end, end-1), end - 2, []Window{{-1, end - 1}}}, {fixed(end, end-1), end - 1, []Window{{end - 1, 2*end - 1}}},
		{sliding(10, 5, 0), 12, []Window{{5, 15}, {10, 20}}}, {sliding(10, 5, 0), 0, []Window{{-5, 5}, {0, 10}}}, {sliding(10, 5, 0), 4, []Window{{-5, 5}, {0, 10}}}, {sliding(10, 5, 0), 5, []Window{{0, 10}, {5, 15}}}, {sliding(10, 5, 2), 1, []Window{{-8, 2}, {-3, 7}}}, {sliding(10, 5, 2), 2, []Window{{-3, 7}, {2, 12}}}, {sliding(10, 5, 4), 0, []Window{{-6, 4}, {-1, 9}}},
		{sliding(5, 5, 3), 2, []Window{{-2, 3}}}, {sliding(5, 5, 3), 3, []Window{{3, 8}}}, {sliding(7, 5, 0), 6, []Window{{0, 7}, {5, 12}}}, {sliding(7, 5, 0), 7, []Window{{5, 12}}}, {sliding(7, 5, 0), 9, []Window{{5, 12}}}, {sliding(7, 5, 0), 10, []Window{{5, 12}, {10, 17}}}, {sliding(7, 5, 0), 12, []Window{{10, 17}}}, {sliding(7, 3, 1), 6, []Window{{1, 8}, {4, 11}}}, {sliding(7, 3, 1), 7, []Window{{1, 8}, {4, 11}, {7, 14}}},
		{sliding(16, 1, 0), 100, sixteen}, {sliding(16, 1, 0), 0, below}, {sliding(1, 1, 0), 0, []Window{{0, 1}}}, {sliding(end, end, 0), end, []Window{{end, 2 * end}}}, {sliding(end, end, end-1), 0, []Window{{-1, end - 1}}}, {sliding(end, end-1, 0), 0, []Window{{1 - end, 1}, {0, end}}}, {sliding(end, end-1, 0), end - 1, []Window{{0, end}, {end - 1, 2*end - 1}}}, {sliding(end, end-1, 0), end, []Window{{end - 1, 2*end - 1}}},
		{sessions(10), 0, []Window{{0, 10}}}, {sessions(10), 7, []Window{{7, 17}}}, {sessions(1), end, []Window{{end, end + 1}}}, {sessions(end), end, []Window{{end, 2 * end}}},
	} {
		got, e := c.f.Assign(c.t)
		wantWindows(t, c, got, e, c.want)
	}
}

// P7.1: what isn't a time is refused, and what isn't a windowing ahead of that.
func TestAssignWrong(t *testing.T) {
	for _, f := range rightFns() {
		for _, n := range []int{-1, -2, -api.MaxTime, least, api.MaxTime + 1, far, most} {
			got, e := f.Assign(n)
			wantNone(t, f, got, e, api.ErrTime)
			got, e = Fn{f.Kind, f.Size, f.Period, f.Offset - 1 - api.MaxTime}.Assign(n)
			wantNone(t, f, got, e, api.ErrWindow)
		}
		for _, n := range []int{0, api.MaxTime} {
			if got, e := f.Assign(n); e != api.OK || len(got) == 0 {
				t.Errorf("%v: Assign(%d): %v, %d", f, n, got, e)
			}
		}
	}
}

// P7.1: each windowing has just the windows that a look at all places finds; they are right, in order, and of f.
func TestAssignPlain(t *testing.T) {
	r := rand.New(rand.NewSource(71))
	for i, f := range rightFns() {
		times := []int{0, api.MaxTime, r.Intn(api.MaxTime)}
		if f.Size < 100 {
			times = append(times, f.Size, f.Offset, api.MaxTime-1, r.Intn(api.MaxTime))
			for n := range 50 {
				times = append(times, n)
			}
		} else if i%2 == 0 {
			times = append(times, f.Offset, max(f.Offset-1, 0), min(f.Offset+f.Size, api.MaxTime))
		}
		for _, n := range times {
			got, e := f.Assign(n)
			wantWindows(t, f, got, e, plainAssign(f, n))
			for j, w := range got {
				if !plainWindow(w) || w.From > n || w.To <= n || j > 0 && !got[j-1].Less(w) {
					t.Errorf("%v: Assign(%d): %v", f, n, got)
				}
			}
		}
	}
}

// P7.1: the first and the last window of a Sliding that has a time, and the ones beside them.
func TestAssignEnds(t *testing.T) {
	for _, f := range rightFns() {
		if f.Kind != Sliding {
			continue
		}
		for _, n := range []int{0, 1, f.Offset, 12345, api.MaxTime} {
			got, e := f.Assign(n)
			if e != api.OK || len(got) == 0 || len(got) > 16 {
				t.Fatalf("%v: Assign(%d): %v, %d", f, n, got, e)
			}
			first, last := got[0], got[len(got)-1]
			if first.To <= n || first.To-f.Period > n || last.From > n || last.From+f.Period <= n || (last.From-f.Offset)%f.Period != 0 {
				t.Errorf("%v: Assign(%d): from %v to %v", f, n, first, last)
			}
		}
	}
}

// P7.4: windows that are told by hand.
func TestSide(t *testing.T) {
	const end = api.MaxTime
	for _, c := range []struct {
		f       Fn
		w, want Window
	}{
		{fixed(10, 0), Window{5, 15}, Window{10, 20}}, {fixed(10, 0), Window{0, 10}, Window{0, 10}}, {fixed(10, 0), Window{0, 11}, Window{10, 20}}, {fixed(10, 3), Window{0, 3}, Window{-7, 3}}, {fixed(10, 3), Window{0, 4}, Window{3, 13}},
		{fixed(10, 3), Window{-1, 1}, Window{-7, 3}}, {fixed(10, 3), Window{-1, 0}, Window{-7, 3}}, {fixed(10, 0), Window{-1, 0}, Window{0, 10}}, {fixed(10, 3), Window{-20, -10}, Window{-7, 3}}, {fixed(10, 0), Window{-end, -end + 1}, Window{0, 10}}, {fixed(10, 0), Window{-30, 2}, Window{0, 10}},
		{sliding(10, 5, 0), Window{5, 13}, Window{10, 20}}, {sliding(10, 5, 0), Window{0, 10}, Window{5, 15}}, {sliding(10, 5, 0), Window{-7, -3}, Window{0, 10}}, {sliding(10, 5, 2), Window{0, 2}, Window{-3, 7}}, {sliding(10, 5, 2), Window{-5, -1}, Window{-3, 7}}, {sliding(7, 5, 0), Window{0, 10}, Window{5, 12}},
		{fixed(10, 0), Window{0, far}, Window{end - end%10, end - end%10 + 10}}, {fixed(10, 0), Window{end + 5, end + 9}, Window{end - end%10, end - end%10 + 10}}, {fixed(1, 0), Window{far - 1, far}, Window{end, end + 1}}, {fixed(1, 0), Window{0, end + 1}, Window{end, end + 1}}, {fixed(1, 0), Window{0, end + 2}, Window{end, end + 1}}, {fixed(1, 0), Window{0, end}, Window{end - 1, end}}, {fixed(end, 0), Window{0, far}, Window{end, 2 * end}}, {sliding(16, 1, 0), Window{-end, far}, Window{end, end + 16}},
		{Fn{}, Window{5, 15}, Window{0, end + 1}}, {Fn{}, Window{-20, -10}, Window{0, end + 1}}, {Fn{}, Window{end + 5, far}, Window{0, end + 1}},
	} {
		if got, e := c.f.Side(c.w); e != api.OK || got != c.want {
			t.Errorf("%v: %v, %d", c, got, e)
		}
	}
}

// P7.4: of all windowings but Sessions the last window at the stamp; a windowing or window that isn't right and Sessions are refused.
func TestSidePlain(t *testing.T) {
	for _, f := range rightFns() {
		for _, w := range rightWindows() {
			got, e := f.Side(w)
			if f.Kind == Sessions {
				if e != api.ErrWindow || got != (Window{}) {
					t.Errorf("%v: Side(%v): %v, %d", f, w, got, e)
				}
				continue
			}
			at := w.To - 1
			if at > 1<<20 {
				at = 1 << 20
			}
			if at < 0 {
				at = 0
			}
			all, _ := f.Assign(at)
			if e != api.OK || got != all[len(all)-1] {
				t.Errorf("%v: Side(%v): %v, %d", f, w, got, e)
			}
		}
		for _, w := range wrongWindows() {
			if got, e := f.Side(w); e != api.ErrWindow || got != (Window{}) {
				t.Errorf("%v: Side(%v): %v, %d", f, w, got, e)
			}
		}
	}
}
