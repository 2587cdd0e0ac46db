package denote

import (
	"fmt"
	"slices"
	"strings"
	"testing"

	"watershed/api"
	"watershed/value"
)

// P13.2: the chapter's own example, node by node.
func TestExample(t *testing.T) {
	v := made(t, "source int", "window 0 1 10 0 0", "each 1 - list(pair(mod(it,2),it))", "group 2 0 0 0 acc sum", "sink 3")
	for _, input := range [][]Item{at(1, 3, 4, 5, 5, 7, 7, 12), at(7, 12, 5, 7, 4, 5, 1, 3), at(4, 5, 7, 12, 1, 3, 5, 7)} {
		o := run(t, v, input)
		wantNode(t, o, 0, "always 3 1", "always 5 4", "always 7 5", "always 12 7")
		wantNode(t, o, 1, "0..10 3 1", "0..10 5 4", "0..10 7 5", "10..20 12 7")
		wantNode(t, o, 2, "0..10 3 (1,1)", "0..10 5 (0,4)", "0..10 7 (1,5)", "10..20 12 (1,7)")
		wantNode(t, o, 3, "0..10 9 (0,4)", "0..10 9 (1,6)", "10..20 19 (1,7)")
		wantNode(t, o, 4, "0..10 9 (0,4)", "0..10 9 (1,6)", "10..20 19 (1,7)")
	}
}

// P13.2: the document's examples of the whole.
func TestWhole(t *testing.T) {
	input := pairsAt(1, 5, 3, 1, 6, 12, 1, 7, 4)
	for _, trig := range []string{"0 0 0 acc", "2 0 0 acc", "0 1 5 acc", "0 1 5 dis", "0 0 0 dis", "3 1 100 dis"} {
		wantLast(t, []string{"source pair(int,int)", "window 0 1 10 0 0", "group 1 " + trig + " sum"}, input, "0..10 9 (1,12)", "10..20 19 (1,6)")
	}
	sessions := []string{"source pair(int,int)", "window 0 3 5 0 0"}
	input = pairsAt(1, 1, 3, 1, 2, 6, 1, 4, 20)
	wantLast(t, sessions, input, "3..8 3 (1,1)", "6..11 6 (1,2)", "20..25 20 (1,4)")
	wantLast(t, append(sessions, "group 1 0 0 0 acc sum"), input, "3..11 10 (1,3)", "20..25 24 (1,4)")
}

// P13.2: a Source has its items in Global's window, by time, then by value, as often as they come.
func TestSource(t *testing.T) {
	wantLast(t, []string{"source int"}, nil)
	wantLast(t, []string{"source int"}, []Item{})
	wantLast(t, []string{"source int"}, at(5, 7, 3, 9, 4, 7, 5, 0, -5, 7, 4, 7), "always 0 5", "always 7 -5", "always 7 4", "always 7 4", "always 7 5", "always 9 3")
	wantLast(t, []string{"source int"}, at(1, api.MaxTime, 2, 0), "always 0 2", "always 1048576 1")
	wantLast(t, []string{"source list(int)"}, all(4, list(num(2)), list(), list(num(1), num(9))), "always 4 list()", "always 4 list(1,9)", "always 4 list(2)")
	wantLast(t, []string{"source option(text)"}, all(4, some(text("b")), none, some(text(""))), "always 4 none", `always 4 some("")`, `always 4 some("b")`)
	wantLast(t, []string{"source point"}, all(4, value.Point(1, -2), value.Point(-1, 3), value.Point(1, -3)), "always 4 -1:3", "always 4 1:-3", "always 4 1:-2")
	wantLast(t, []string{"source pair(bool,bytes)"}, all(4, pair(truth(1), octets("")), pair(truth(0), octets("\xff"))), "always 4 (false,ff)", "always 4 (true,)")
}

// P13.2: several Sources have the lists by their places, whatever stands between them; those that are not live, too.
func TestSources(t *testing.T) {
	v := made(t, "source text", "each 0 - list(size(it))", "source int", "flatten 1,2", "source int", "sink 3")
	o := run(t, v, all(5, text("abc"), text("")), at(3, 6, 8, 4), at(1, 1))
	wantNode(t, o, 0, `always 5 ""`, `always 5 "abc"`)
	wantNode(t, o, 1, "always 5 0", "always 5 3")
	wantNode(t, o, 2, "always 4 8", "always 6 3")
	wantNode(t, o, 3, "always 4 8", "always 5 0", "always 5 3", "always 6 3")
	wantNode(t, o, 4, "always 1 1")
	wantNode(t, o, 5, "always 4 8", "always 5 0", "always 5 3", "always 6 3")
	o = run(t, v, nil, at(3, 6), nil)
	wantNode(t, o, 1)
	wantNode(t, o, 3, "always 6 3")
	wantNode(t, o, 4)
}

// P13.2: a Window has of each value one for each window that its time is given, with that time.
func TestWindow(t *testing.T) {
	input := at(1, 2, 2, 3, 3, 12, 4, 2)
	for kind, want := range map[string][]string{
		"0 0 0 0":  {"always 2 1", "always 2 4", "always 3 2", "always 12 3"},
		"1 10 0 3": {"-7..3 2 1", "-7..3 2 4", "3..13 3 2", "3..13 12 3"},
		"1 1 0 0":  {"2..3 2 1", "2..3 2 4", "3..4 3 2", "12..13 12 3"},
		"2 10 5 0": {"-5..5 2 1", "-5..5 2 4", "-5..5 3 2", "0..10 2 1", "0..10 2 4", "0..10 3 2", "5..15 12 3", "10..20 12 3"},
		"2 3 2 1":  {"1..4 2 1", "1..4 2 4", "1..4 3 2", "3..6 3 2", "11..14 12 3"},
		"2 5 5 0":  {"0..5 2 1", "0..5 2 4", "0..5 3 2", "10..15 12 3"},
		"3 5 0 0":  {"2..7 2 1", "2..7 2 4", "3..8 3 2", "12..17 12 3"},
	} {
		wantLast(t, []string{"source int", "window 0 " + kind}, input, want...)
		// What windows were given ahead doesn't count, but that there may be several.
		wantLast(t, []string{"source int", "window 0 1 4 0 1", "window 1 3 9 0 0", "window 2 " + kind}, input, want...)
	}
	wantLast(t, []string{"source int", "window 0 2 10 5 0", "window 1 1 10 0 0"}, at(1, 2, 2, 12), "0..10 2 1", "0..10 2 1", "10..20 12 2", "10..20 12 2")
	wantLast(t, []string{"source int", "window 0 2 16 1 0"}, at(1, 0), "-15..1 0 1", "-14..2 0 1", "-13..3 0 1", "-12..4 0 1", "-11..5 0 1", "-10..6 0 1", "-9..7 0 1", "-8..8 0 1", "-7..9 0 1", "-6..10 0 1", "-5..11 0 1", "-4..12 0 1", "-3..13 0 1", "-2..14 0 1", "-1..15 0 1", "0..16 0 1")
	wantLast(t, []string{"source int", "window 0 1 10 0 0"}, at(1, api.MaxTime, 2, 0), "0..10 0 2", "1048570..1048580 1048576 1")
	wantLast(t, []string{"source int", "window 0 3 1048576 0 0"}, at(1, api.MaxTime, 2, 0), "0..1048576 0 2", "1048576..2097152 1048576 1")
	wantLast(t, []string{"source int", "window 0 1 10 0 0"}, nil)
}

// P13.2: an Each has what its function emits, with the time and the window of what it was given.
func TestEach(t *testing.T) {
	input := at(3, 4, 1, 9, 0, 14)
	wantLast(t, []string{"source int", "window 0 1 10 0 0", "each 1 - list(it,neg(it))"}, input, "0..10 4 -3", "0..10 4 3", "0..10 9 -1", "0..10 9 1", "10..20 14 0", "10..20 14 0")
	wantLast(t, []string{"source int", "window 0 2 10 5 0", "each 1 - range(it)"}, at(2, 9), "0..10 9 0", "0..10 9 1", "5..15 9 0", "5..15 9 1")
	wantLast(t, []string{"source int", "each 0 - nil(text)"}, input)
	wantLast(t, []string{"source int", "each 0 - list(show(it))"}, input, `always 4 "3"`, `always 9 "1"`, `always 14 "0"`)
	wantLast(t, []string{"source pair(int,int)", "each 0 - list(first(it),second(it))"}, pairsAt(2, 1, 5), "always 5 1", "always 5 2")
	wantLast(t, []string{"source int", "each 0 - list(it)"}, nil)
}

// P13.2: of what a function emits the first MaxEmit count: not the least ones, not those that are small enough.
func TestMaxEmit(t *testing.T) {
	for many, want := range map[int][]string{
		0: nil, 1: {"always 7 0"}, 3: {"always 7 -2", "always 7 -1", "always 7 0"}, 4: {"always 7 -3", "always 7 -2", "always 7 -1", "always 7 0"},
		5: {"always 7 -3", "always 7 -2", "always 7 -1", "always 7 0"}, 64: {"always 7 -3", "always 7 -2", "always 7 -1", "always 7 0"}, 100: {"always 7 -3", "always 7 -2", "always 7 -1", "always 7 0"},
	} {
		wantLast(t, []string{"source int", "each 0 - map(range(it),x,neg(x))"}, at(many, 7), want...)
	}
	wantLast(t, []string{"source int", "each 0 - list(5,9,5,7,1)"}, at(0, 7), "always 7 5", "always 7 5", "always 7 7", "always 7 9")
}

// emitting tells a function that emits values of these sizes, each with its number as its first int: 400 and 401 as lists of lists, 2 as list(list()).
func emitting(sizes ...int) string {
	var each []string
	for i, size := range sizes {
		lists := map[int]string{2: "list(nil(int))", 400: "map(range(7),x,cons(%d,range(55)))", 401: "map(range(8),x,cons(%d,range(48)))"}[size]
		if strings.Contains(lists, "%d") {
			lists = fmt.Sprintf(lists, i)
		}
		each = append(each, lists)
	}
	return "list(" + strings.Join(each, ",") + ")"
}

// P13.2: of the first MaxEmit values those with a size above MaxItem don't count, and none stands in for them.
func TestMaxItem(t *testing.T) {
	for _, x := range []struct {
		sizes []int
		want  []int
	}{
		{[]int{400}, []int{400}}, {[]int{401}, nil}, {[]int{2}, []int{2}},
		{[]int{400, 401, 400}, []int{400, 400}},
		{[]int{401, 2, 2, 2, 2}, []int{2, 2, 2}},
		{[]int{2, 401, 401, 2, 400}, []int{2, 2}},
		{[]int{401, 401, 401, 401, 2}, nil},
		{[]int{2, 2, 2, 2, 401}, []int{2, 2, 2, 2}},
		{[]int{400, 2, 2, 400, 400}, []int{2, 2, 400, 400}},
		{[]int{2, 2, 2, 401, 400}, []int{2, 2, 2}},
	} {
		o := run(t, made(t, "source int", "each 0 - "+emitting(x.sizes...)), at(0, 7))
		var got []int
		for _, y := range o[1] {
			size, _ := value.Size(y.Value)
			got = append(got, size)
		}
		slices.Sort(got)
		if !slices.Equal(got, x.want) {
			t.Errorf("of what has the sizes %v: %v; want %v", x.sizes, got, x.want)
		}
	}
}

// P13.2: of a value for which the function ends by ErrFuel comes nothing; of others what comes of them.
func TestFuel(t *testing.T) {
	long := "fold(range(64),0,a,x,add(a,fold(range(64),0,b,y,add(b,y))))"
	wantLast(t, []string{"source int", "each 0 - if(lt(it,3),list(it),list(it," + long + "))"}, at(3, 1, 2, 2, 1, 3, 4, 4), "always 2 2", "always 3 1")
	wantLast(t, []string{"source int", "each 0 - list(" + long + ")"}, at(3, 1, 2, 2))
	// What would be greater than MaxSize ends all, too: there is nothing, though four of them are small.
	great := "map(range(64),x,range(it))"
	wantLast(t, []string{"source int", "each 0 - " + great}, at(2, 1, 64, 2), strings.Split(strings.Repeat("always 1 list(0,1);", 4), ";")[:4]...)
}

// P13.2: a Group has of one key and window one value: at the window's stamp, in the window.
func TestGroup(t *testing.T) {
	input := pairsAt(1, 5, 3, 2, 7, 3, 1, 6, 12, 1, 9, 9, 0, 1, 19)
	for text, want := range map[string][]string{
		"sum":             {"0..10 9 (1,14)", "0..10 9 (2,7)", "10..20 19 (0,1)", "10..20 19 (1,6)"},
		"count":           {"0..10 9 (1,2)", "0..10 9 (2,1)", "10..20 19 (0,1)", "10..20 19 (1,1)"},
		"mean":            {"0..10 9 (1,7)", "0..10 9 (2,7)", "10..20 19 (0,1)", "10..20 19 (1,6)"},
		"min":             {"0..10 9 (1,some(5))", "0..10 9 (2,some(7))", "10..20 19 (0,some(1))", "10..20 19 (1,some(6))"},
		"max":             {"0..10 9 (1,some(9))", "0..10 9 (2,some(7))", "10..20 19 (0,some(1))", "10..20 19 (1,some(6))"},
		"all":             {"0..10 9 (1,list(5,9))", "0..10 9 (2,list(7))", "10..20 19 (0,list(1))", "10..20 19 (1,list(6))"},
		"top(1)":          {"0..10 9 (1,list(9))", "0..10 9 (2,list(7))", "10..20 19 (0,list(1))", "10..20 19 (1,list(6))"},
		"both(mean,set)":  {"0..10 9 (1,(7,list(5,9)))", "0..10 9 (2,(7,list(7)))", "10..20 19 (0,(1,list(1)))", "10..20 19 (1,(6,list(6)))"},
		"both(count,sum)": {"0..10 9 (1,(2,14))", "0..10 9 (2,(1,7))", "10..20 19 (0,(1,1))", "10..20 19 (1,(1,6))"},
	} {
		wantLast(t, []string{"source pair(int,int)", "window 0 1 10 0 0", "group 1 0 0 0 acc " + text}, input, want...)
	}
	wantLast(t, []string{"source pair(int,int)", "group 0 0 0 0 acc sum"}, input, "always 1048576 (0,1)", "always 1048576 (1,20)", "always 1048576 (2,7)")
	wantLast(t, []string{"source pair(int,int)", "window 0 2 10 5 0", "group 1 0 0 0 acc sum"}, input, "-5..5 4 (1,5)", "-5..5 4 (2,7)", "0..10 9 (1,14)", "0..10 9 (2,7)", "5..15 14 (1,15)", "10..20 19 (0,1)", "10..20 19 (1,6)", "15..25 24 (0,1)")
	wantLast(t, []string{"source pair(int,int)", "group 0 0 0 0 acc sum"}, nil)
	wantLast(t, []string{"source pair(int,int)", "window 0 1 1000 0 0", "group 1 0 0 0 acc sum"}, pairsAt(1, 5, api.MaxTime), "1048000..1049000 1048576 (1,5)")
}

// P13.2: keys are held against each other as values, and stand in the order of values.
func TestKeys(t *testing.T) {
	keyed := func(of string, keys ...api.Value) []Item {
		var items []Item
		for i, k := range keys {
			items = append(items, Item{pair(k, num(1<<i)), 5})
		}
		return items
	}
	for of, x := range map[string]struct {
		keys []api.Value
		want []string
	}{
		"int":                      {nums(0, -1, 256, 0, -1<<63, 255), []string{"(-9223372036854775808,16)", "(-1,2)", "(0,9)", "(255,32)", "(256,4)"}},
		"text":                     {[]api.Value{text("b"), text("a\x00"), text("a"), text(""), text("a\x00"), text("ab")}, []string{`("",8)`, `("a",4)`, `("a\x00",18)`, `("ab",32)`, `("b",1)`}},
		"bool":                     {[]api.Value{truth(1), truth(0), truth(1)}, []string{"(false,2)", "(true,5)"}},
		"point":                    {[]api.Value{value.Point(1, 0), value.Point(-1, 5), value.Point(1, -1), value.Point(1, 0), value.Point(-1, 5)}, []string{"(-1:5,18)", "(1:-1,4)", "(1:0,9)"}},
		"list(int)":                {[]api.Value{list(nums(1, 2)...), list(), list(nums(1)...), list(nums(1, 2)...)}, []string{"(list(),2)", "(list(1),4)", "(list(1,2),9)"}},
		"option(text)":             {[]api.Value{some(text("")), none, some(text("")), none}, []string{`(none,10)`, `(some(""),5)`}},
		"pair(text,text)":          {[]api.Value{pair(text("a"), text("b")), pair(text("ab"), text("")), pair(text(""), text("ab")), pair(text("a"), text("b"))}, []string{`(("","ab"),4)`, `(("a","b"),9)`, `(("ab",""),2)`}},
		"bytes":                    {[]api.Value{octets("\x00\xff"), octets("\x00"), octets("\x00\x00"), octets("\x00")}, []string{"(00,10)", "(0000,4)", "(00ff,1)"}},
		"list(list(option(bool)))": {[]api.Value{list(list(), list(none)), list(list(none)), list(list(), list(none))}, []string{"(list(list(),list(none)),5)", "(list(list(none)),2)"}},
	} {
		var want []string
		for _, w := range x.want {
			want = append(want, "0..10 9 "+w)
		}
		wantLast(t, []string{"source pair(" + of + ",int)", "window 0 1 10 0 0", "group 1 0 0 0 acc sum"}, keyed(of, x.keys...), want...)
	}
}

// P13.2: by Sessions the windows of one key that overlap are one first: only those of that key, and only those that overlap.
func TestSessions(t *testing.T) {
	of := []string{"source pair(int,int)", "window 0 3 5 0 0", "group 1 0 0 0 acc sum"}
	for _, x := range []struct {
		items []Item
		want  []string
	}{
		{nil, nil},
		{pairsAt(1, 1, 3), []string{"3..8 7 (1,1)"}},
		{pairsAt(1, 1, 3, 1, 2, 3), []string{"3..8 7 (1,3)"}},
		{pairsAt(1, 1, 3, 1, 2, 7), []string{"3..12 11 (1,3)"}},
		{pairsAt(1, 1, 3, 1, 2, 8), []string{"3..8 7 (1,1)", "8..13 12 (1,2)"}},
		{pairsAt(1, 1, 3, 1, 2, 9), []string{"3..8 7 (1,1)", "9..14 13 (1,2)"}},
		{pairsAt(1, 1, 3, 2, 2, 4), []string{"3..8 7 (1,1)", "4..9 8 (2,2)"}},
		{pairsAt(1, 1, 0, 1, 2, 8, 1, 4, 4), []string{"0..13 12 (1,7)"}},
		{pairsAt(1, 1, 0, 1, 2, 8, 2, 4, 4), []string{"0..5 4 (1,1)", "4..9 8 (2,4)", "8..13 12 (1,2)"}},
		{pairsAt(2, 1, 20, 1, 2, 10, 2, 4, 14, 1, 8, 12, 2, 16, 17, 1, 32, 30), []string{"10..17 16 (1,10)", "14..25 24 (2,21)", "30..35 34 (1,32)"}},
		{pairsAt(1, 1, 3, 2, 2, 3, 2, 4, 5, 1, 8, 5), []string{"3..10 9 (1,9)", "3..10 9 (2,6)"}},
		{pairsAt(1, 1, api.MaxTime, 1, 2, api.MaxTime-4, 1, 4, api.MaxTime-9), []string{"1048567..1048572 1048571 (1,4)", "1048572..1048581 1048576 (1,3)"}},
	} {
		wantLast(t, of, x.items, x.want...)
		slices.Reverse(x.items)
		wantLast(t, of, x.items, x.want...)
	}
	// Ahead of a Group nothing is merged, nor behind it: not by an Each, a Flatten or a Sink.
	v := made(t, "source pair(int,int)", "window 0 3 5 0 0", "each 1 - list(it)", "flatten 1,2", "group 3 0 0 0 acc sum", "each 4 - list(it)", "sink 3", "sink 5", "flatten 1,5")
	o := run(t, v, pairsAt(1, 1, 3, 1, 2, 4))
	for _, i := range []int{1, 2} {
		wantNode(t, o, i, "3..8 3 (1,1)", "4..9 4 (1,2)")
	}
	for _, i := range []int{3, 6} {
		wantNode(t, o, i, "3..8 3 (1,1)", "3..8 3 (1,1)", "4..9 4 (1,2)", "4..9 4 (1,2)")
	}
	for _, i := range []int{4, 5, 7} {
		wantNode(t, o, i, "3..9 8 (1,6)")
	}
	wantNode(t, o, 8, "3..8 3 (1,1)", "3..9 8 (1,6)", "4..9 4 (1,2)")
	// A Group of other windows merges none that touch or overlap.
	wantLast(t, []string{"source pair(int,int)", "window 0 3 5 0 0", "window 1 2 4 2 0", "group 2 0 0 0 acc sum"}, pairsAt(1, 1, 3, 1, 2, 4), "0..4 3 (1,1)", "2..6 5 (1,3)", "4..8 7 (1,2)")
}

// P13.2: a Group behind another one has the values at the stamps of its windows.
func TestGroups(t *testing.T) {
	start := []string{"source pair(int,int)", "window 0 3 5 0 0", "group 1 0 0 0 acc sum"}
	input := pairsAt(1, 1, 3, 1, 2, 6, 1, 4, 20, 2, 8, 7)
	wantLast(t, append(start, "window 2 1 10 0 0"), input, "10..20 10 (1,3)", "10..20 11 (2,8)", "20..30 24 (1,4)")
	wantLast(t, append(start, "window 2 1 10 0 0", "each 3 - list(pair(0,second(it)))", "group 4 0 0 0 acc both(count,sum)"), input, "10..20 19 (0,(2,11))", "20..30 29 (0,(1,4))")
	wantLast(t, append(start, "window 2 3 14 0 0", "group 3 0 0 0 acc all"), input, "10..24 23 (1,list(3))", "11..25 24 (2,list(8))", "24..38 37 (1,list(4))")
	wantLast(t, append(start, "window 2 3 15 0 0", "group 3 0 0 0 acc all"), input, "11..26 25 (2,list(8))", "10..39 38 (1,list(3,4))")
	wantLast(t, append(start, "window 2 0 0 0 0", "group 3 0 0 0 acc sum", "window 4 1 10 0 0"), input, "1048570..1048580 1048576 (1,7)", "1048570..1048580 1048576 (2,8)")
}

// P13.2: a Flatten has the values of all its Ins, each as often as they have it.
func TestFlatten(t *testing.T) {
	v := made(t, "source int", "source int", "each 0 - list(it,add(it,1))", "flatten 0", "flatten 0,1", "flatten 0,1,2,4", "sink 5", "sink 3", "sink 4")
	o := run(t, v, at(1, 5, 2, 6), at(1, 5, 0, 7))
	wantNode(t, o, 3, "always 5 1", "always 6 2")
	wantNode(t, o, 4, "always 5 1", "always 5 1", "always 6 2", "always 7 0")
	wantNode(t, o, 5, "always 5 1", "always 5 1", "always 5 1", "always 5 1", "always 5 1", "always 5 2", "always 6 2", "always 6 2", "always 6 2", "always 6 3", "always 7 0", "always 7 0")
	for sink, of := range map[int]int{6: 5, 7: 3, 8: 4} {
		wantNode(t, o, sink, lines(o[of]))
	}
	o = run(t, v, nil, nil)
	for i := range o {
		wantNode(t, o, i)
	}
}

// P13.2: nodes that are not live have their values, too.
func TestNotLive(t *testing.T) {
	v := made(t, "source pair(int,int)", "source int", "window 0 1 10 0 0", "group 2 0 0 0 acc sum", "each 1 0 list(add(it,len(side(0))))", "flatten 2,3", "sink 1")
	o := run(t, v, pairsAt(1, 5, 3, 1, 6, 4), at(7, 5))
	wantNode(t, o, 2, "0..10 3 (1,5)", "0..10 4 (1,6)")
	wantNode(t, o, 3, "0..10 9 (1,11)")
	wantNode(t, o, 4, "always 5 9")
	wantNode(t, o, 5, "0..10 3 (1,5)", "0..10 4 (1,6)", "0..10 9 (1,11)")
	wantNode(t, o, 6, "always 5 7")
}
