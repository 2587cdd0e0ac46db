package valid

import (
	"fmt"
	"slices"
	"strings"
	"testing"

	"watershed/api"
	"watershed/graph"
	"watershed/kind"
	"watershed/window"
)

// wantRefused: New has this error at this place.
func wantRefused(t *testing.T, what string, p graph.Pipeline, place int, want api.Errno) {
	t.Helper()
	if v, at, e := New(p); v != nil || at != place || e != want {
		t.Errorf("New of %s: %v, %d, %d; want %d, %d", what, v != nil, at, e, place, want)
	}
}

// P12.1: what layer 11 has against a pipeline stands ahead of all else.
func TestNotRight(t *testing.T) {
	wantRefused(t, "nothing", graph.Pipeline{}, 0, api.ErrForm)
	wantRefused(t, "too many", graph.Pipeline{Nodes: slices.Repeat(pipe("source int").Nodes, 33)}, 0, api.ErrForm)
	lines := []string{"source int", "each 0 - no function", "group 0 0 0 0 acc no combiner", "source int", "sink 3"}
	for _, x := range []struct {
		at     int
		change func(n *graph.Node)
		want   api.Errno
	}{
		{4, func(n *graph.Node) { n.Op = 7 }, api.ErrOp},
		{3, func(n *graph.Node) { n.Op = 0 }, api.ErrOp},
		{4, func(n *graph.Node) { n.In[0] = 4 }, api.ErrInput},
		{2, func(n *graph.Node) { n.In = nil }, api.ErrInput},
		{1, func(n *graph.Node) { n.Side = []int{0, 0} }, api.ErrInput},
		{1, func(n *graph.Node) { n.Text = "" }, api.ErrForm},
		{2, func(n *graph.Node) { n.Trig.Late = 1 }, api.ErrForm},
		{3, func(n *graph.Node) { n.Type = kind.Type{Kind: api.List} }, api.ErrForm},
		{4, func(n *graph.Node) { n.Fn = window.Fn{Size: 1} }, api.ErrForm},
	} {
		p := pipe(lines...)
		x.change(&p.Nodes[x.at])
		wantRefused(t, fmt.Sprint("a pipeline that is not right at ", x.at), p, x.at, x.want)
		at, e := graph.Check(p)
		wantRefused(t, "what layer 11 refuses", p, at, e)
	}
	ring := kind.Type{Kind: api.List, Args: make([]kind.Type, 1)}
	ring.Args[0] = ring
	wantRefused(t, "a type in itself", graph.Pipeline{Nodes: []graph.Node{{Op: graph.Source, Type: ring}}}, 0, api.ErrForm)
}

// P12.1: an Each whose Text is no function.
func TestEachSyntax(t *testing.T) {
	for _, text := range []string{"-", "list(it", "list(it))", "list()", "01", "Add", "side(10)", "nil(imt)", "add(1)", "\"", "let(it,1,list(1))", strings.Repeat("neg(", 24) + "it" + strings.Repeat(")", 24)} {
		wantNew(t, 1, api.ErrSyntax, "source int", "each 0 - "+text, "sink 1")
	}
	// Blanks are no fault, nor is a depth of 24.
	wantValid(t, "source int", "each 0 -   list( it , 1 ) ", "sink 1")
	wantValid(t, "source int", "each 0 - list("+strings.Repeat("neg(", 22)+"it"+strings.Repeat(")", 23), "sink 1")
}

// P12.1: layer 5's errors of what an Each emits.
func TestEachEmits(t *testing.T) {
	for line, want := range map[string]api.Errno{
		"0 - it": api.ErrType, "0 - 1": api.ErrType, "0 - some(it)": api.ErrType, "0 - add(it,\"a\")": api.ErrType, "0 - list(it,true)": api.ErrType, "1 - list(add(it,1))": api.ErrType,
		"0 - x": api.ErrName, "0 - list(add(it,x))": api.ErrName, "0 - map(list(it),x,y)": api.ErrName, "0 - add(x,\"a\")": api.ErrName,
		"0 - side(0)": api.ErrSide, "0 1 side(1)": api.ErrSide, "0 0,1 list(len(side(2)))": api.ErrSide, "0 0,1 side(9)": api.ErrSide,
		"0 1 list(add(it,first(side(0))))": api.ErrType, "0 2 side(0)": api.ErrKind, "0 0,1,2 list(it)": api.ErrKind, "2 2 x": api.ErrKind, "0 2 it": api.ErrKind,
	} {
		wantNew(t, 3, want, "source int", "source text", "source list(list(list(list(list(int)))))", "each "+line, "sink 3")
	}
	// A type that is as deep as may be is right as it; lists of one that is a bit less deep are right, too.
	wantValid(t, "source list(list(list(list(list(int)))))", "each 0 - it", "sink 1")
	wantValid(t, "source list(list(list(list(int))))", "each 0 0 side(0)", "sink 1")
	wantNew(t, 1, api.ErrType, "source list(list(list(list(list(int)))))", "each 0 - list(it)", "sink 1")
}

// P12.1: a Side windowed by Sessions is refused, at any place of Side and of whatever Op.
func TestSideOfSessions(t *testing.T) {
	lines := []string{pairs, "window 0 1 5 0 0", "window 0 2 5 5 0", "window 0 3 5 0 0", "flatten 3", "each 3 - list(it)", "group 3 0 0 0 acc sum", "window 6 0 0 0 0"}
	for line, want := range map[string]api.Errno{
		"0 0,1,2 list(it)": api.OK, "0 7 list(it)": api.OK, "3 0,1,2,7 list(it)": api.OK, "0 3 list(it)": api.ErrWindow, "0 0,1,2,3 list(it)": api.ErrWindow, "0 3,7 list(it)": api.ErrWindow, "0 1,3,7 list(it)": api.ErrWindow, "0 4 list(it)": api.ErrWindow, "0 5 list(it)": api.ErrWindow, "0 6 list(it)": api.ErrWindow, "3 3 list(it)": api.ErrWindow, "6 - list(it)": api.OK,
	} {
		place := 0
		if want != api.OK {
			place = len(lines)
		}
		wantNew(t, place, want, append(slices.Clone(lines), "each "+line, "sink 8")...)
	}
}

// P12.1: a Group whose In has no pair.
func TestNoPair(t *testing.T) {
	for _, of := range []string{"bool", "int", "text", "bytes", "point", "list(pair(int,int))", "option(pair(int,int))"} {
		wantNew(t, 1, api.ErrPair, "source "+of, "group 0 0 0 0 acc count", "sink 1")
	}
	wantNew(t, 2, api.ErrPair, pairs, "each 0 - list(first(it))", "group 1 0 0 0 acc sum", "sink 2")
	wantNew(t, 2, api.ErrPair, "source int", "window 0 1 10 0 0", "group 1 0 0 0 acc sum", "sink 2")
}

// P12.1: a Group whose Text is no combiner.
func TestGroupSyntax(t *testing.T) {
	for _, text := range []string{"sums", "su", "Sum", " sum", "sum ", "top", "top(0)", "top(17)", "top(01)", "both(sum)", "both(sum,sum,sum)", "both(sum, sum)", "both(both(both(sum,sum),sum),sum)", "-"} {
		wantNew(t, 1, api.ErrSyntax, pairs, "group 0 0 0 0 acc "+text, "sink 1")
	}
	for _, text := range []string{"sum", "top(1)", "top(16)", "both(both(sum,min),both(max,count))"} {
		wantValid(t, pairs, "group 0 0 0 0 acc "+text, "sink 1")
	}
}

// P12.1: a Group whose combiner doesn't take v, or whose outcomes make a pair that is too deep.
func TestGroupCombine(t *testing.T) {
	for _, x := range []struct{ in, text string }{
		{"pair(int,text)", "sum"}, {"pair(int,text)", "mean"}, {"pair(int,int)", "spin"}, {"pair(int,point)", "sum"}, {"pair(int,list(int))", "sum"}, {"pair(int,option(int))", "mean"}, {"pair(int,int)", "both(sum,spin)"}, {"pair(int,text)", "both(count,both(max,sum))"},
		{"pair(int,list(list(list(list(int)))))", "all"}, {"pair(int,list(list(list(list(int)))))", "min"}, {"pair(int,list(list(list(list(int)))))", "top(3)"}, {"pair(int,list(list(list(list(int)))))", "both(count,max)"},
		{"pair(int,list(list(list(int))))", "both(count,set)"}, {"pair(int,list(list(int)))", "both(sum,both(count,max))"}, {"pair(int,list(list(int)))", "both(both(all,all),both(count,max))"},
	} {
		wantNew(t, 1, api.ErrCombine, "source "+x.in, "group 0 0 0 0 acc "+x.text, "sink 1")
	}
	for _, x := range []struct{ in, text string }{
		{"pair(int,list(list(list(list(int)))))", "count"}, {"pair(int,list(list(list(int))))", "all"}, {"pair(int,list(list(int)))", "both(count,set)"}, {"pair(int,list(int))", "both(count,both(count,max))"}, {"pair(list(list(list(list(int)))),int)", "both(sum,max)"},
	} {
		wantValid(t, "source "+x.in, "group 0 0 0 0 acc "+x.text, "sink 1")
	}
	// A combiner may take v with accumulators that are right, though pair(k,w) is too deep.
	wantNew(t, 1, api.ErrCombine, "source pair(int,list(list(list(list(int)))))", "group 0 0 0 0 acc set", "sink 1")
}

// P12.1: a Group below merged sessions, with a Window between and without.
func TestMergedSessions(t *testing.T) {
	start := []string{pairs, "window 0 3 5 0 0", "group 1 0 0 0 acc sum"}
	for _, x := range []struct {
		between []string
		want    api.Errno
	}{
		{nil, api.ErrWindow},
		{[]string{"each 2 - list(it)"}, api.ErrWindow},
		{[]string{"flatten 2"}, api.ErrWindow},
		{[]string{"flatten 1,2"}, api.ErrWindow},
		{[]string{"flatten 1", "flatten 1,2,3"}, api.ErrWindow},
		{[]string{"each 2 - list(it)", "flatten 1,3", "each 4 0 list(it)", "flatten 1,5"}, api.ErrWindow},
		{[]string{"window 2 3 5 0 0", "flatten 2,3"}, api.ErrWindow},
		{[]string{"window 2 3 5 0 0"}, api.OK},
		{[]string{"window 2 1 5 0 0"}, api.OK},
		{[]string{"window 2 0 0 0 0"}, api.OK},
		{[]string{"window 2 2 5 5 0"}, api.OK},
		{[]string{"each 2 - list(it)", "window 3 3 5 0 0", "each 4 - list(it)"}, api.OK},
		{[]string{"flatten 1,2", "window 3 3 7 0 0", "flatten 4"}, api.OK},
		{[]string{"each 1 - list(it)"}, api.OK},
		{[]string{"flatten 1"}, api.OK},
		{[]string{"window 2 1 5 0 0", "group 3 0 0 0 acc sum"}, api.OK},
		{[]string{"window 2 3 5 0 0", "group 3 0 0 0 acc sum"}, api.ErrWindow},
		{[]string{"each 1 2 list(it)"}, api.ErrWindow},
	} {
		lines := append(slices.Clone(start), x.between...)
		last := len(lines) - 1
		lines = append(lines, fmt.Sprintf("group %d 0 0 0 acc sum", last), fmt.Sprint("sink ", last+1))
		place := last + 1
		switch {
		case x.want == api.OK:
			place = 0
		case len(x.between) == 1 && strings.HasPrefix(x.between[0], "each 1 2"):
			place = 3 // The Each looks at merged sessions, and is wrong itself.
		}
		wantNew(t, place, x.want, lines...)
	}
	// Merged sessions may go anywhere else.
	wantValid(t, append(slices.Clone(start), "each 2 0 list(it)", "flatten 1,2,3", "sink 2", "sink 3", "sink 4", "window 4 1 5 0 0", "sink 8")...)
	// A Group in other windows doesn't merge.
	wantValid(t, pairs, "window 0 1 5 0 0", "group 1 0 0 0 acc sum", "group 2 0 0 0 acc sum", "sink 3")
}

// P12.1: a Group windowed by Sessions may not wait.
func TestWaitingSessions(t *testing.T) {
	for trig, want := range map[string]api.Errno{"0 0 0 acc": api.OK, "0 0 0 dis": api.OK, "1 0 0 acc": api.ErrInner, "0 0 1 acc": api.ErrInner, "0 1 1 dis": api.ErrInner, "3 2 1 acc": api.ErrInner} {
		place := 0
		if want != api.OK {
			place = 2
		}
		wantNew(t, place, want, pairs, "window 0 3 5 0 0", "group 1 "+trig+" sum", "sink 2")
		wantValid(t, pairs, "window 0 3 5 0 0", "window 1 1 5 0 0", "group 2 "+trig+" sum", "sink 3")
	}
	wantNew(t, 3, api.ErrInner, pairs, "window 0 3 5 0 0", "each 1 - list(it)", "group 2 1 0 0 acc sum", "sink 3")
}

// P12.1: a Flatten of unlike types, of unlike windowings, and of such that are alike.
func TestMixed(t *testing.T) {
	lines := []string{"source int", "source text", "source int", "window 0 1 10 0 0", "window 2 1 10 0 0", "window 2 1 10 0 1", "window 0 0 0 0 0", "window 1 1 10 0 0", "window 0 2 10 10 0", "window 0 3 10 0 0", "window 2 3 10 0 0", "each 3 - list(add(it,1))", "each 1 - list(size(it))"}
	last := len(lines)
	for ins, alike := range map[string]bool{
		"0": true, "1": true, "9": true, "0,2": true, "0,2,6": true, "0,2,6,12": true, "3,4": true, "3,4,11": true, "9,10": true,
		"0,1": false, "0,3": false, "0,1,2": false, "0,2,3": false, "0,2,6,7": false, "0,2,6,9": false, "3,5": false, "3,4,5": false, "3,7": false, "3,8": false, "3,9": false, "4,8": false, "8,9": false, "1,12": false, "0,11": false, "5,6": false,
	} {
		sunk := append(slices.Clone(lines), "flatten "+ins, fmt.Sprint("sink ", last))
		if alike {
			wantValid(t, sunk...)
		} else {
			wantNew(t, last, api.ErrMixed, sunk...)
		}
	}
	wantNew(t, 2, api.ErrMixed, "source list(pair(int,text))", "source list(pair(int,bytes))", "flatten 0,1", "sink 2")
	wantNew(t, 2, api.ErrMixed, "source list(int)", "source option(int)", "flatten 0,1", "sink 2")
}

// P12.1: without a Sink, if nothing else is wrong.
func TestNoSink(t *testing.T) {
	for _, lines := range [][]string{
		{"source int"},
		{"source int", "each 0 - list(it)"},
		{pairs, "window 0 1 10 0 0", "group 1 0 0 0 acc sum", "flatten 2"},
		{pairs, "group 0 2 0 0 acc sum"},
	} {
		wantNew(t, 0, api.ErrSink, lines...)
	}
	wantValid(t, "source int", "sink 0", "source int")
}
