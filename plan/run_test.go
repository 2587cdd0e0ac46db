package plan

import (
	"fmt"
	"math"
	"slices"
	"strings"
	"testing"

	"watershed/api"
	"watershed/denote"
	"watershed/value"
	"watershed/window"
)

// wantRun: just this becomes of the values, in whatever order they come.
func wantRun(t *testing.T, p *Plan, stage int, values []denote.Out, outs, sinks, kept []string) {
	t.Helper()
	turned := slices.Clone(values)
	slices.Reverse(turned)
	for _, values := range [][]denote.Out{values, turned} {
		r := run(t, p, stage, values...)
		wantLists(t, "Outs", r.Outs, outs...)
		wantLists(t, "Sinks", r.Sinks, sinks...)
		wantLists(t, "Kept", r.Kept, kept...)
	}
}

// wantNoRun: the values are refused.
func wantNoRun(t *testing.T, what string, p *Plan, stage int, want api.Errno, values ...denote.Out) {
	t.Helper()
	r, e := p.Run(stage, values...)
	if r.Outs != nil || r.Sinks != nil || r.Kept != nil || e != want {
		t.Errorf("Run of %s: %s, %d; want %d", what, result(r), e, want)
	}
}

// P14.2: the chapter's own example: a value of 0 comes to 3 twice: as it is, and as 1 has it.
func TestRunExample(t *testing.T) {
	p := planned(t, example()...)
	wantRun(t, p, 0, outs(win(0, 10), 3, two(1, 5)), []string{"0..10 3 (1,-5); 0..10 3 (1,5)"}, nil, nil)
	wantRun(t, p, 1, outs(win(0, 10), 9, pair(num(1), list(nums(3, 5)...))), nil, []string{"0..10 9 (1,list(3,5))"}, nil)
	wantRun(t, p, 0, append(outs(win(5, 9), 3, two(1, 5), two(0, 0)), outs(win(0, 9), 4, two(2, -1))...),
		[]string{"0..9 4 (2,-1); 0..9 4 (2,1); 5..9 3 (0,0); 5..9 3 (0,0); 5..9 3 (1,-5); 5..9 3 (1,5)"}, nil, nil)
}

// P14.2: of no values nothing comes, but there is a list for each of the Outs, Sinks and Kept.
func TestRunNothing(t *testing.T) {
	p := planned(t, pairs, "each 0 - list(it)", "group 1 0 0 0 acc sum", "each 1 0,1 list(it)", "sink 2", "sink 3", "sink 1", "sink 0")
	for _, values := range [][]denote.Out{nil, {}} {
		wantRun(t, p, 0, values, []string{"", ""}, []string{"", ""}, []string{"", ""})
		wantRun(t, p, 1, values, nil, []string{""}, nil)
	}
	// Nor does more come of values of which none goes on.
	p = planned(t, "source int", "each 0 - nil(int)", "flatten 1", "window 2 2 10 5 0", "each 0 1,3 list(it)", "sink 3", "sink 4", "sink 0")
	wantRun(t, p, 0, outs(always, 3, nums(1, 2)...), []string{"always 3 1; always 3 2"}, []string{"", "always 3 1; always 3 2"}, []string{"", ""})
}

// P14.2: for each of the Outs, in their order, the values of the node that it reads from; for Sinks and Kept their own.
func TestRunLists(t *testing.T) {
	p := planned(t, pairs, "each 0 - list(pair(first(it),mul(second(it),10)))", "each 1 - list(pair(first(it),add(second(it),1)))",
		"group 2 0 0 0 acc sum", "group 0 0 0 0 acc sum", "group 1 0 0 0 acc sum", "each 2 0,1 list(it)", "sink 1", "sink 3", "sink 4", "sink 5", "sink 6", "sink 0", "sink 2")
	one, ten, more := "0..10 3 (1,5)", "0..10 3 (1,50)", "0..10 3 (1,51)"
	wantRun(t, p, 0, outs(win(0, 10), 3, two(1, 5)), []string{more, one, ten, more}, []string{ten, one, more}, []string{one, ten})
	// What was put together, and what a Group has, go on alike: as they are.
	for stage := range 3 {
		wantRun(t, p, 1+stage, outs(win(0, 10), 9, two(1, 5), two(1, 5)), nil, []string{"0..10 9 (1,5); 0..10 9 (1,5)"}, nil)
	}
	// Of an Each with a Side the values are those that it emits: what it looks at isn't looked at again.
	wantRun(t, p, 4, outs(win(0, 10), 3, two(1, 5)), nil, []string{one}, nil)
}

// P14.2: each list stands in order: by window, then by time, then by value; equal ones as often as they come.
func TestRunInOrder(t *testing.T) {
	values := slices.Concat(outs(win(5, 20), 3, nums(3, 1)...), outs(win(0, 20), 9, num(1)), outs(win(0, 9), 3, nums(7, 7)...), outs(win(-5, 9), 30, nums(2)...), outs(win(0, 9), 2, nums(8, 7)...), outs(always, 0, num(-3)))
	want := "-5..9 30 2; 0..9 2 7; 0..9 2 8; 0..9 3 7; 0..9 3 7; 0..20 9 1; 5..20 3 1; 5..20 3 3; always 0 -3"
	p := planned(t, "source int", "flatten 0", "each 0 0,1 list(it)", "sink 2", "sink 1", "sink 0")
	wantRun(t, p, 0, values, []string{want}, []string{want, want}, []string{want, want})
	p = planned(t, "source int", "each 0 - list(neg(it),it,7)", "sink 1")
	wantRun(t, p, 0, outs(always, 3, nums(9, -7)...), nil, []string{"always 3 -9; always 3 -7; always 3 7; always 3 7; always 3 7; always 3 9"}, nil)
}

// P14.2: an Each emits at most MaxEmit values, none above MaxItem, none by ErrFuel; with time and window as they were.
func TestRunEach(t *testing.T) {
	p := planned(t, "source int", "each 0 - range(it)", "each 1 - list(add(it,it))", "sink 2")
	wantRun(t, p, 0, outs(win(3, 9), 4, num(6)), nil, []string{"3..9 4 0; 3..9 4 2; 3..9 4 4; 3..9 4 6"}, nil)
	wantRun(t, p, 0, outs(win(3, 9), 4, nums(0, 1, -5)...), nil, []string{"3..9 4 0"}, nil)
	p = planned(t, "source int", "each 0 - list(if(lt(it,0),fold(range(64),0,a,x,add(a,fold(range(64),0,b,y,add(b,y)))),it))", "sink 1")
	wantRun(t, p, 0, outs(always, 4, nums(5, -5, 6)...), nil, []string{"always 4 5; always 4 6"}, nil)
	// A head's values may be greater than MaxItem, but what is emitted of them may not.
	p = planned(t, "source list(list(int))", "each 0 - list(it)", "each 0 - list(len(it))", "sink 0", "sink 1", "sink 2")
	for size, want := range map[int]bool{66: true, api.MaxItem: true, api.MaxItem + 1: false, 1500: false, api.MaxSize: false} {
		x := outs(always, 4, sized(size))
		emitted := ""
		if want {
			emitted = lines(x)
		}
		wantRun(t, p, 0, x, nil, []string{lines(x), emitted, fmt.Sprint("always 4 ", len(x[0].Value.List))}, nil)
	}
}

// P14.2: a Window gives a value to each window that has its time, whatever window it stood in; one behind the other.
func TestRunWindow(t *testing.T) {
	for line, want := range map[string]string{
		"0 0 0 0": "always 12 5", "1 10 0 0": "10..20 12 5", "1 10 0 3": "3..13 12 5", "2 10 5 0": "5..15 12 5; 10..20 12 5", "2 12 5 1": "1..13 12 5; 6..18 12 5; 11..23 12 5", "3 5 0 0": "12..17 12 5",
	} {
		p := planned(t, "source int", "window 0 "+line, "sink 1")
		for _, w := range []window.Window{always, win(0, 10), win(12, 13), win(500, 501), win(-9, -8)} {
			wantRun(t, p, 0, outs(w, 12, num(5)), nil, []string{want}, nil)
		}
	}
	p := planned(t, "source int", "window 0 2 10 5 0", "window 1 1 100 0 0", "sink 2")
	wantRun(t, p, 0, outs(always, 12, num(5)), nil, []string{"0..100 12 5; 0..100 12 5"}, nil)
}

// P14.2: a Flatten has what comes of all its Ins; one node that is read by two makes two of a value.
func TestRunFlatten(t *testing.T) {
	p := planned(t, "source int", "each 0 - list(neg(it))", "flatten 0,1", "flatten 0,1,2", "sink 3", "sink 2")
	wantRun(t, p, 0, outs(always, 3, num(5)), nil, []string{"always 3 -5; always 3 -5; always 3 5; always 3 5", "always 3 -5; always 3 5"}, nil)
	p = planned(t, "source int", "each 0 - list(it,it)", "flatten 1", "each 1 - list(neg(it))", "flatten 1,2,3", "sink 4")
	wantRun(t, p, 0, outs(always, 3, num(5)), nil, []string{"always 3 -5; always 3 -5; always 3 5; always 3 5; always 3 5; always 3 5"}, nil)
}

// P14.2: of a Flatten just those Ins count that are the head or among Nodes: what others have is not made up.
func TestRunFlattenOfSeveral(t *testing.T) {
	p := planned(t, pairs, pairs, "group 1 0 0 0 acc sum", "each 2 - list(pair(first(it),neg(second(it))))", "flatten 0,1,2,3", "group 4 0 0 0 acc sum", "sink 5", "sink 4", "each 0 4 list(it)", "sink 8")
	x := outs(always, 3, two(1, 5))
	wantRun(t, p, 0, x, []string{"always 3 (1,5)", "always 3 (1,5)"}, []string{"always 3 (1,5)"}, []string{"always 3 (1,5)"})
	wantRun(t, p, 1, x, []string{"always 3 (1,5)", "always 3 (1,5)"}, []string{"always 3 (1,5)"}, []string{"always 3 (1,5)"})
	wantRun(t, p, 2, x, []string{"always 3 (1,-5); always 3 (1,5)"}, []string{"always 3 (1,-5); always 3 (1,5)"}, []string{"always 3 (1,-5); always 3 (1,5)"})
	// A Flatten of which one In leads around a head, and one through it.
	p = planned(t, pairs, "group 0 0 0 0 acc sum", "flatten 0,1", "sink 2")
	wantRun(t, p, 0, x, []string{"always 3 (1,5)"}, []string{"always 3 (1,5)"}, nil)
	wantRun(t, p, 1, x, nil, []string{"always 3 (1,5)"}, nil)
}

// P14.2: no value comes to what is left out, nor past the next head.
func TestRunEnds(t *testing.T) {
	p := planned(t, pairs, "each 0 - list(it)", "group 0 0 0 0 acc sum", "flatten 0,2", "each 0 0,1 list(it)", "sink 3")
	wantRun(t, p, 0, outs(always, 3, two(1, 5)), []string{"always 3 (1,5)"}, []string{"always 3 (1,5)"}, nil)
}

// P14.2: there must be such a stage, whatever the values are.
func TestRunStage(t *testing.T) {
	p := planned(t, example()...)
	good, bad := outs(win(0, 10), 3, two(1, 5)), []denote.Out{{}}
	for _, stage := range []int{-1, -2, 2, 3, 4, 5, 6, api.MaxNodes, math.MinInt, math.MaxInt, 1 << 32, math.MinInt + 1} {
		for _, values := range [][]denote.Out{nil, good, bad} {
			wantNoRun(t, fmt.Sprint("the stage ", stage), p, stage, api.ErrStage, values...)
		}
	}
	for stage := range 2 {
		wantNoRun(t, "what is no value", p, stage, api.ErrItem, bad...)
	}
	p = planned(t, "source int", "source text", "sink 1")
	wantRun(t, p, 0, outs(always, 0, text("a")), nil, []string{`always 0 "a"`}, nil)
	wantNoRun(t, "the stage 1", p, 1, api.ErrStage, outs(always, 0, text("a"))...)
}

// P14.2: each value must be of the head's type, at whatever place it stands.
func TestRunType(t *testing.T) {
	values := map[string][]api.Value{
		"bool": {truth(0), truth(1)}, "int": {num(0), num(-1 << 63)}, "text": {text(""), text(strings.Repeat("x", api.MaxText))}, "bytes": {octets("\x00"), octets("")},
		"point": {value.Point(0, 0), value.Point(-1<<20, 1<<20-1)}, "pair(int,text)": {pair(num(1), text(""))}, "pair(text,int)": {pair(text(""), num(1))}, "pair(int,int)": {two(1, 2)},
		"list(int)": {list(num(1)), list(nums(make([]int, api.MaxList)...)...)}, "list(text)": {list(text("a"), text("b"))}, "option(int)": {some(num(1))}, "option(text)": {some(text(""))},
		"list(list(int))": {list(list(num(1))), sized(api.MaxSize)}, "option(option(int))": {some(some(num(1)))},
	}
	for of, mine := range values {
		p := planned(t, "source "+of, "sink 0")
		for _, x := range mine {
			wantRun(t, p, 0, outs(always, 5, x), nil, []string{"always 5 " + say(x)}, nil)
		}
		good := outs(win(0, 10), 3, mine[0])[0]
		for other, theirs := range values {
			for _, x := range theirs {
				if of != other {
					wantNoRun(t, other+" as "+of, p, 0, api.ErrItem, outs(always, 5, x)...)
					wantNoRun(t, other+" as "+of, p, 0, api.ErrItem, good, outs(always, 5, x)[0], good)
					wantNoRun(t, other+" as "+of, p, 0, api.ErrItem, good, good, outs(always, 5, x)[0])
				}
			}
		}
		for _, x := range []api.Value{{}, ring(), {Kind: 99}, {Kind: mine[0].Kind, Int: 7, Text: "x"}, {Kind: api.Int, List: nums(1)}, {Kind: api.Bool, Int: 2}, text(strings.Repeat("x", api.MaxText+1)), list(make([]api.Value, api.MaxList+1)...), sized(api.MaxSize + 1), {Kind: api.Point, Point: complex(0.5, 0)}, {Kind: api.Point, Point: complex(math.NaN(), math.Inf(1))}} {
			wantNoRun(t, "a value that isn't right as "+of, p, 0, api.ErrItem, outs(always, 5, x)...)
		}
	}
}

// P14.2: the head's type is that of what it has: of a Group its outcomes, of an Each what it emits, not what comes to it.
func TestRunHeadType(t *testing.T) {
	p := planned(t, "source pair(int,text)", "group 0 0 0 0 acc count", "each 1 0 list(some(first(it)))", "sink 2")
	values := []denote.Out{{Value: pair(num(1), text("a")), Win: always}, {Value: two(1, 2), Win: always}, {Value: some(num(1)), Win: always}}
	for stage := range 3 {
		for k, x := range values {
			_, e := p.Run(stage, x)
			if want := map[bool]api.Errno{true: api.OK, false: api.ErrItem}[stage == k]; e != want {
				t.Errorf("Run of the stage %d with %s: %d; want %d", stage, say(x.Value), e, want)
			}
		}
	}
}

// P14.2: windows must be right, of whatever windowing; times must be from 0 to MaxTime, in the window or not.
func TestRunWindowAndTime(t *testing.T) {
	p := planned(t, "source int", "window 0 1 10 0 0", "sink 0", "sink 1")
	good := outs(win(0, 10), 3, num(1))[0]
	for _, w := range []window.Window{{}, win(5, 5), win(6, 5), win(-api.MaxTime-1, 5), win(0, 2*api.MaxTime+2), win(math.MinInt, math.MaxInt), win(math.MaxInt, math.MinInt)} {
		bad := denote.Out{Value: num(1), Time: 3, Win: w}
		wantNoRun(t, "no window", p, 0, api.ErrItem, bad)
		wantNoRun(t, "no window", p, 0, api.ErrItem, good, good, bad)
		wantNoRun(t, "no window", p, 0, api.ErrItem, bad, good)
	}
	for _, time := range []int{-1, -2, api.MaxTime + 1, api.MaxTime + 2, math.MinInt, math.MaxInt, 1 << 32} {
		bad := denote.Out{Value: num(1), Time: time, Win: always}
		wantNoRun(t, "no time", p, 0, api.ErrItem, bad)
		wantNoRun(t, "no time", p, 0, api.ErrItem, good, bad, good)
		wantNoRun(t, "no time, window and value", p, 0, api.ErrItem, denote.Out{Value: ring(), Time: time})
	}
	for _, time := range []int{0, 1, api.MaxTime - 1, api.MaxTime} {
		for _, w := range []window.Window{always, win(-api.MaxTime, 2*api.MaxTime+1), win(-api.MaxTime, -api.MaxTime+1), win(2*api.MaxTime, 2*api.MaxTime+1), win(0, 1)} {
			x := denote.Out{Value: num(1), Time: time, Win: w}
			from := time / 10 * 10
			wantRun(t, p, 0, []denote.Out{x}, nil, []string{lines([]denote.Out{x}), fmt.Sprint(from, "..", from+10, " ", time, " 1")}, nil)
		}
	}
}

// P14.2: what a value weighs it may become, as often as the values come.
func TestRunMany(t *testing.T) {
	p := planned(t, "source int", "each 0 - list(it,it,it,it)", "each 1 - list(it,it,it,it)", "each 2 - list(it,it,it,it)", "each 3 - list(it,it,it,it)", "sink 4")
	if r := run(t, p, 0, outs(always, 3, nums(make([]int, 50)...)...)...); len(r.Sinks) != 1 || len(r.Sinks[0]) != 50*api.MaxMany {
		t.Errorf("Run: %d lists", len(r.Sinks))
	}
}
