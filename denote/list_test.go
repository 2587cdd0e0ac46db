package denote

import (
	"math"
	"math/rand"
	"slices"
	"testing"

	"watershed/api"
	"watershed/value"
	"watershed/window"
)

// rising are values with times and windows as they stand in order, no two alike.
func rising() []Out {
	wins := []window.Window{win(-9, -5), win(-5, 5), win(0, 5), win(-5, 10), win(0, 10), win(9, 10), always}
	times := []int{math.MinInt, -1, 0, 1, 4, 1 << 40, math.MaxInt}
	values := []api.Value{truth(0), truth(1), num(math.MinInt), num(-1), num(0), num(3), num(math.MaxInt), text(""), text("\x00"), text("a"), text("aa"), text("b"), octets(""), octets("\xff"), value.Point(-1, 3), value.Point(0, -1), value.Point(0, 0), two(1, 9), two(2, 0), pair(none, none), list(), list(num(1)), list(num(1), num(0)), list(num(2)), none, some(num(1)), some(num(2)), some(none)}
	var list []Out
	for _, w := range wins {
		for _, time := range times {
			list = append(list, outs(w, time, values...)...)
		}
	}
	return list
}

// P13.3: Sort puts values by window, then by time, then by value.
func TestSort(t *testing.T) {
	want := rising()
	r := rand.New(rand.NewSource(1))
	for range 5 {
		mixed := slices.Clone(want)
		r.Shuffle(len(mixed), func(i, j int) { mixed[i], mixed[j] = mixed[j], mixed[i] })
		if got := Sort(mixed...); lines(got) != lines(want) {
			t.Errorf("Sort of mixed ones: %s", lines(got))
		}
		few := slices.Clone(mixed[:20])
		few = append(few, few[3], few[5], few[3])
		got := Sort(few...)
		slices.SortFunc(few, plainOrder)
		if lines(got) != lines(few) {
			t.Errorf("Sort of few: %s; want %s", lines(got), lines(few))
		}
	}
	if got := Sort(want...); lines(got) != lines(want) {
		t.Errorf("Sort of what is in order: %s", lines(got))
	}
	backward := slices.Clone(want)
	slices.Reverse(backward)
	if got := Sort(backward...); lines(got) != lines(want) {
		t.Errorf("Sort backward: %s", lines(got))
	}
	if got := Sort(); len(got) != 0 {
		t.Errorf("Sort of nothing: %s", lines(got))
	}
	if got := Sort(want[5]); lines(got) != lines(want[5:6]) {
		t.Errorf("Sort of one: %s", lines(got))
	}
}

// P13.3: windows stand by To, then by From; times and values count only where they are alike.
func TestSortWindows(t *testing.T) {
	got := Sort(Out{num(1), 3, win(0, 10)}, Out{num(2), 2, win(5, 10)}, Out{num(3), 1, win(5, 9)}, Out{num(0), 9, win(-2, 11)}, Out{num(9), 2, win(0, 10)}, Out{num(1), 2, win(0, 10)}, Out{num(9), 2, win(0, 10)})
	if want := "5..9 1 3; 0..10 2 1; 0..10 2 9; 0..10 2 9; 0..10 3 1; 5..10 2 2; -2..11 9 0"; lines(got) != want {
		t.Errorf("Sort: %s; want %s", lines(got), want)
	}
}

// wantSame: a and b have the same values, or not, whichever stands first.
func wantSame(t *testing.T, a, b []Out, want bool) {
	t.Helper()
	if Same(a, b) != want || Same(b, a) != want {
		t.Errorf("Same(%s | %s): %v, %v; want %v", lines(a), lines(b), Same(a, b), Same(b, a), want)
	}
}

// P13.3: Same holds values, times and windows against each other, each as often as it is there.
func TestSame(t *testing.T) {
	base := []Out{{num(1), 3, win(0, 10)}, {num(2), 3, win(0, 10)}, {text("a"), 3, win(0, 10)}, {num(1), 4, win(0, 10)}, {num(1), 3, win(0, 11)}, {num(1), 3, win(0, 10)}}
	wantSame(t, base, base, true)
	wantSame(t, nil, nil, true)
	wantSame(t, nil, []Out{}, true)
	wantSame(t, nil, base[:1], false)
	r := rand.New(rand.NewSource(1))
	for range 20 {
		mixed := slices.Clone(base)
		r.Shuffle(len(mixed), func(i, j int) { mixed[i], mixed[j] = mixed[j], mixed[i] })
		wantSame(t, base, mixed, true)
		wantSame(t, base, mixed[1:], false)
		wantSame(t, base, append(mixed, mixed[0]), false)
	}
	for i, x := range base {
		for _, y := range []Out{{num(7), x.Time, x.Win}, {some(x.Value), x.Time, x.Win}, {x.Value, x.Time + 1, x.Win}, {x.Value, x.Time - 1, x.Win}, {x.Value, x.Time, win(x.Win.From, x.Win.To+1)}, {x.Value, x.Time, win(x.Win.From-1, x.Win.To)}} {
			other := slices.Clone(base)
			other[i] = y
			wantSame(t, base, other, plainSame(base, other))
			wantSame(t, []Out{x}, []Out{y}, false)
		}
	}
	// As many, but not as often each.
	a, b := Out{num(1), 3, win(0, 10)}, Out{num(2), 3, win(0, 10)}
	wantSame(t, []Out{a, a, b}, []Out{a, b, b}, false)
	wantSame(t, []Out{a, a, b}, []Out{b, a, a}, true)
	wantSame(t, []Out{a, a, b}, []Out{b, a}, false)
	all := rising()
	for i := range all[1:] {
		wantSame(t, all[i:i+1], all[i+1:i+2], false)
	}
}

// P13.3: what is in other memory is the same still; nil and empty lists are one.
func TestSameMemory(t *testing.T) {
	a := outs(always, 3, list(num(1), pair(text("a"), none)), list())
	b := outs(always, 3, api.Value{Kind: api.List, List: []api.Value{}}, list(num(1), pair(text("a"), api.Value{Kind: api.None, List: []api.Value{}})))
	wantSame(t, a, b, true)
}

// wantLeast: Least of these values is the list of those, in whatever order they come.
func wantLeast(t *testing.T, values []api.Value, want ...api.Value) {
	t.Helper()
	r := rand.New(rand.NewSource(1))
	for range 4 {
		if got := Least(values...); say(got) != say(list(want...)) || value.Check(got) != api.OK {
			t.Errorf("Least(%s): %s; want %s", say(list(values...)), say(got), say(list(want...)))
		}
		values = slices.Clone(values)
		r.Shuffle(len(values), func(i, j int) { values[i], values[j] = values[j], values[i] })
	}
}

// P13.3: Least tells the least 16 values, rising, but none with a size above 16.
func TestLeast(t *testing.T) {
	wantLeast(t, nil)
	wantLeast(t, nums(5), num(5))
	wantLeast(t, nums(3, -1, 3, 2), nums(-1, 2, 3, 3)...)
	var many []int
	for i := range 100 {
		many = append(many, 99-i)
	}
	for _, n := range []int{15, 16, 17, 100} {
		sorted := slices.Sorted(slices.Values(many[:n]))
		wantLeast(t, nums(many[:n]...), nums(sorted[:min(n, 16)]...)...)
	}
	just, above := list(nums(make([]int, 15)...)...), list(nums(make([]int, 16)...)...)
	wantLeast(t, []api.Value{above})
	wantLeast(t, []api.Value{just}, just)
	wantLeast(t, append(slices.Repeat([]api.Value{above}, 20), just, list(num(1))), just, list(num(1)))
	wantLeast(t, append(slices.Repeat([]api.Value{list()}, 17), just), slices.Repeat([]api.Value{list()}, 16)...)
	wantLeast(t, slices.Repeat([]api.Value{just}, 17), slices.Repeat([]api.Value{just}, 16)...)
	wantLeast(t, []api.Value{pair(some(just), none), pair(list(nums(make([]int, 13)...)...), none)}, pair(list(nums(make([]int, 13)...)...), none))
	wantLeast(t, []api.Value{some(num(1)), none, text("b"), text("a"), truth(1)}, truth(1), text("a"), text("b"), none, some(num(1)))
}

// P1: Sort, Same and Least end without a panic, whatever they are given.
func TestListsOfAll(t *testing.T) {
	odd := []api.Value{{}, {Kind: 77}, ring(), truth(5), text(string(make([]byte, 1000))), sized(5000), {Kind: api.Point, Point: complex(math.NaN(), math.Inf(1))}, num(1), {Kind: api.Int, Text: "x"}}
	var list []Out
	for i, x := range odd {
		list = append(list, Out{x, i % 2, win(9, 3)}, Out{x, -i, win(math.MinInt, math.MaxInt)}, Out{x, 0, window.Window{}})
	}
	for range 3 {
		Sort(list...)
		Same(list, list)
		Same(list, list[3:])
		Least(append(odd, odd...)...)
		list = append(list, list...)
	}
}
