package window

import (
	"math"
	"math/rand"
	"slices"
	"strconv"
	"strings"
	"testing"

	"watershed/api"
)

// P7.2: windows at the ends of what they may be, and one past.
func TestCheckWindow(t *testing.T) {
	for _, w := range rightWindows() {
		if e := w.Check(); e != api.OK {
			t.Errorf("%v: %d", w, e)
		}
	}
	for _, w := range wrongWindows() {
		if e := w.Check(); e != api.ErrWindow {
			t.Errorf("%v: %d", w, e)
		}
	}
	for _, from := range edges() {
		for _, to := range edges() {
			w := Window{from, to}
			if e := w.Check(); e != api.OK && e != api.ErrWindow || (e == api.OK) != plainWindow(w) {
				t.Errorf("%v: %d", w, e)
			}
		}
	}
}

// P7.2: the last time of a window, or MaxTime.
func TestStamp(t *testing.T) {
	const end = api.MaxTime
	for _, c := range []struct {
		w    Window
		want int
	}{
		{Window{0, 10}, 9}, {Window{0, 1}, 0}, {Window{-1, 1}, 0}, {Window{-1, 0}, -1}, {Window{-20, -10}, -11}, {Window{-end, 1 - end}, -end}, {Window{-end, 0}, -1},
		{Window{0, end}, end - 1}, {Window{0, end + 1}, end}, {Window{0, end + 2}, end}, {Window{end, end + 1}, end}, {Window{end, end + 2}, end}, {Window{end + 1, end + 2}, end}, {Window{end + 5, end + 9}, end}, {Window{-end, far}, end}, {Window{far - 1, far}, end},
	} {
		if got, e := c.w.Stamp(); e != api.OK || got != c.want {
			t.Errorf("%v: %d, %d; want %d", c.w, got, e, c.want)
		}
	}
	for _, w := range wrongWindows() {
		if got, e := w.Stamp(); e != api.ErrWindow || got != 0 {
			t.Errorf("%v: %d, %d", w, got, e)
		}
	}
}

// P7.2: by To, then by From, whatever both are.
func TestLess(t *testing.T) {
	for _, c := range []struct {
		w, v Window
		want bool
	}{
		{Window{0, 5}, Window{0, 6}, true}, {Window{0, 6}, Window{0, 5}, false}, {Window{9, 5}, Window{0, 6}, true}, {Window{4, 5}, Window{0, 6}, true}, {Window{0, 6}, Window{4, 5}, false}, {Window{0, 5}, Window{1, 5}, true}, {Window{1, 5}, Window{0, 5}, false}, {Window{0, 5}, Window{0, 5}, false}, {Window{-3, -1}, Window{-2, -1}, true}, {Window{-3, -1}, Window{-4, 0}, true},
		{Window{most, least}, Window{least, most}, true}, {Window{least, most}, Window{most, least}, false}, {Window{least, 0}, Window{most, 0}, true}, {Window{most, 0}, Window{least, 0}, false}, {Window{0, least}, Window{0, most}, true}, {Window{0, most}, Window{0, least}, false}, {Window{}, Window{}, false}, {Window{most, most}, Window{most, most}, false},
	} {
		if got := c.w.Less(c.v); got != c.want {
			t.Errorf("%v Less %v: %v", c.w, c.v, got)
		}
	}
	all := append(rightWindows(), wrongWindows()...)
	for _, w := range all {
		for _, v := range all {
			ahead := w.To < v.To || w.To == v.To && w.From < v.From
			if w.Less(v) != ahead {
				t.Errorf("%v Less %v: %v", w, v, !ahead)
			}
		}
	}
}

// P7.2: windows in order, those that come twice as often as they come.
func TestSort(t *testing.T) {
	for _, c := range []struct{ windows, want []Window }{
		{nil, nil}, {[]Window{}, nil}, {[]Window{{0, 5}}, []Window{{0, 5}}},
		{[]Window{{0, 9}, {8, 9}, {0, 5}, {4, 5}, {-3, 5}}, []Window{{-3, 5}, {0, 5}, {4, 5}, {0, 9}, {8, 9}}},
		{[]Window{{0, 10}, {1, 2}, {0, 10}, {1, 2}}, []Window{{1, 2}, {1, 2}, {0, 10}, {0, 10}}},
		{[]Window{{0, far}, {-api.MaxTime, far}, {-api.MaxTime, 0}, {-2, -1}}, []Window{{-2, -1}, {-api.MaxTime, 0}, {-api.MaxTime, far}, {0, far}}},
	} {
		got, e := Sort(c.windows...)
		wantWindows(t, c.windows, got, e, c.want)
	}
	r := rand.New(rand.NewSource(72))
	for i := range 500 {
		windows := anyWindows(r, i%40, 1+i%30, 1+r.Intn(9))
		got, e := Sort(windows...)
		wantWindows(t, windows, got, e, plainSort(windows))
	}
	windows := rightWindows()
	got, e := Sort(windows...)
	wantWindows(t, windows, got, e, plainSort(windows))
}

// P7.3: windows that are told by hand.
func TestMerge(t *testing.T) {
	const end = api.MaxTime
	for _, c := range []struct{ windows, want []Window }{
		{nil, nil}, {[]Window{}, nil}, {[]Window{{3, 4}}, []Window{{3, 4}}}, {[]Window{{-end, far}}, []Window{{-end, far}}},
		{[]Window{{0, 5}, {5, 9}, {3, 4}}, []Window{{0, 5}, {5, 9}}}, {[]Window{{0, 5}, {4, 9}}, []Window{{0, 9}}}, {[]Window{{4, 9}, {0, 5}}, []Window{{0, 9}}}, {[]Window{{0, 5}, {6, 9}}, []Window{{0, 5}, {6, 9}}}, {[]Window{{5, 9}, {0, 5}}, []Window{{0, 5}, {5, 9}}},
		{[]Window{{0, 10}, {3, 4}}, []Window{{0, 10}}}, {[]Window{{3, 4}, {0, 10}}, []Window{{0, 10}}}, {[]Window{{0, 10}, {0, 4}}, []Window{{0, 10}}}, {[]Window{{0, 10}, {6, 10}}, []Window{{0, 10}}}, {[]Window{{0, 10}, {0, 10}, {0, 10}}, []Window{{0, 10}}}, {[]Window{{0, 1}, {0, 1}}, []Window{{0, 1}}},
		{[]Window{{0, 5}, {7, 12}, {4, 8}}, []Window{{0, 12}}}, {[]Window{{0, 5}, {7, 12}, {5, 7}}, []Window{{0, 5}, {5, 7}, {7, 12}}}, {[]Window{{0, 5}, {7, 12}, {4, 7}}, []Window{{0, 7}, {7, 12}}}, {[]Window{{0, 5}, {7, 12}, {5, 8}}, []Window{{0, 5}, {5, 12}}}, {[]Window{{0, 2}, {20, 22}, {3, 5}, {1, 21}}, []Window{{0, 22}}}, {[]Window{{10, 20}, {30, 40}, {50, 60}, {19, 31}, {39, 51}}, []Window{{10, 60}}},
		{[]Window{{3, 11}, {6, 14}, {20, 28}}, []Window{{3, 14}, {20, 28}}}, {[]Window{{-5, 1}, {0, 2}}, []Window{{-5, 2}}}, {[]Window{{-5, 0}, {0, 2}}, []Window{{-5, 0}, {0, 2}}}, {[]Window{{-5, 2}, {-1, 4}, {-9, -5}}, []Window{{-9, -5}, {-5, 4}}},
		{[]Window{{-end, 1}, {0, far}}, []Window{{-end, far}}}, {[]Window{{-end, 0}, {0, far}}, []Window{{-end, 0}, {0, far}}}, {[]Window{{end, far}, {end - 1, end + 1}}, []Window{{end - 1, far}}}, {[]Window{{end, far}, {0, end}}, []Window{{0, end}, {end, far}}},
	} {
		got, e := Merge(c.windows...)
		wantWindows(t, c.windows, got, e, c.want)
	}
}

// P7.3: what comes of two at a time again and again, in any order of what is handed in.
func TestMergePlain(t *testing.T) {
	r := rand.New(rand.NewSource(73))
	for i := range 2000 {
		windows := anyWindows(r, i%14, 1+i%60, 1+r.Intn(12))
		want := plainMerge(windows)
		got, e := Merge(windows...)
		wantWindows(t, windows, got, e, want)
		slices.Reverse(windows)
		got, e = Merge(windows...)
		wantWindows(t, windows, got, e, want)
		got, e = Merge(got...)
		wantWindows(t, want, got, e, want)
	}
	var chain, steps []Window
	for i := range 3000 {
		chain = append(chain, Window{3 * i, 3*i + 4})
		steps = append(steps, Window{3 * i, 3*i + 3})
	}
	r.Shuffle(len(chain), func(i, j int) { chain[i], chain[j] = chain[j], chain[i] })
	got, e := Merge(chain...)
	wantWindows(t, "chain", got, e, []Window{{0, 9001}})
	got, e = Merge(append(chain, steps...)...)
	wantWindows(t, "chain and steps", got, e, []Window{{0, 9001}})
	want := slices.Clone(steps)
	r.Shuffle(len(steps), func(i, j int) { steps[i], steps[j] = steps[j], steps[i] })
	got, e = Merge(steps...)
	wantWindows(t, "steps", got, e, want)
}

// P7.2, P7.3: a window that isn't right is refused at any place among others.
func TestWrongAmong(t *testing.T) {
	for _, wrong := range wrongWindows() {
		for at := range 4 {
			windows := []Window{{0, 10}, {5, 15}, {5, 15}}
			windows = slices.Insert(windows, at, wrong)
			got, e := Sort(windows...)
			wantNone(t, windows, got, e, api.ErrWindow)
			got, e = Merge(windows...)
			wantNone(t, windows, got, e, api.ErrWindow)
		}
		got, e := Sort(wrong)
		wantNone(t, wrong, got, e, api.ErrWindow)
		got, e = Merge(wrong)
		wantNone(t, wrong, got, e, api.ErrWindow)
		got, e = Merge(wrong, wrong)
		wantNone(t, wrong, got, e, api.ErrWindow)
	}
}

// P7.5: both numbers in decimal digits, whatever they are.
func TestText(t *testing.T) {
	for _, c := range []struct {
		w    Window
		want string
	}{
		{Window{0, 10}, "0..10"}, {Window{-7, 3}, "-7..3"}, {Window{-20, -10}, "-20..-10"}, {Window{-1, 0}, "-1..0"}, {Window{5, 15}, "5..15"}, {Window{100, 1048577}, "100..1048577"}, {Window{-1048576, 2097153}, "-1048576..2097153"},
		{Window{}, "0..0"}, {Window{10, 0}, "10..0"}, {Window{3, -7}, "3..-7"}, {Window{math.MinInt64, math.MaxInt64}, "-9223372036854775808..9223372036854775807"}, {Window{math.MaxInt64, math.MinInt64}, "9223372036854775807..-9223372036854775808"},
	} {
		if got := Text(c.w); got != c.want {
			t.Errorf("%v: %q", c.w, got)
		}
	}
	for _, w := range append(rightWindows(), wrongWindows()...) {
		from, to, found := strings.Cut(Text(w), "..")
		a, wrongFrom := strconv.ParseInt(from, 10, 64)
		b, wrongTo := strconv.ParseInt(to, 10, 64)
		if !found || wrongFrom != nil || wrongTo != nil || (Window{int(a), int(b)}) != w || strings.HasPrefix(from+to, "+") {
			t.Errorf("%v: %q", w, Text(w))
		}
	}
}
