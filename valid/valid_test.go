package valid

import (
	"testing"

	"watershed/api"
	"watershed/window"
)

var (
	fixed    = window.Fn{Kind: window.Fixed, Size: 10}
	sliding  = window.Fn{Kind: window.Sliding, Size: 10, Period: 5}
	sessions = window.Fn{Kind: window.Sessions, Size: 5}
)

// P12.1, P12.2: the chapter's examples.
func TestExamples(t *testing.T) {
	v := valid(t, "source int", "each 0 - list(pair(mod(it,2),it))", "group 1 0 0 0 acc sum", "sink 2")
	wantHas(t, v,
		has{of: "int", weight: 1},
		has{of: "pair(int,int)", weight: 4, fn: "list(pair(int,int))"},
		has{of: "pair(int,int)", weight: 4, acc: "int", outcome: "int"},
		has{of: "pair(int,int)", weight: 4},
	)
	wantNew(t, 2, api.ErrCombine, "source int", "each 0 - list(pair(mod(it,2),show(it)))", "group 1 0 0 0 acc sum", "sink 2")
	wantNew(t, 1, api.ErrInner, pairs, "group 0 2 0 0 acc sum", "group 1 0 0 0 acc sum", "sink 2")
}

// P12.1, P12.2: the examples of the whole.
func TestExamplesOfWhole(t *testing.T) {
	for _, group := range []string{"group 1 0 0 0 acc sum", "group 1 0 1 5 acc sum", "group 1 0 1 5 dis sum", "group 1 2 0 0 acc sum"} {
		wantValid(t, pairs, "window 0 1 10 0 0", group, "sink 2")
	}
	wantValid(t, pairs, "window 0 3 5 0 0", "group 1 0 0 0 acc sum", "sink 2")
	wantNew(t, 1, api.ErrType, "source int", "each 0 - it", "sink 1")
}

// P12.2: what nodes of each Op have, worked out by hand: with Sides, several Sinks, and nodes that are not live.
func TestNodes(t *testing.T) {
	v := valid(t,
		"source int",                         // 0
		"source text",                        // 1
		"window 0 1 10 0 0",                  // 2
		"each 2 0,1 list(pair(it,side(1)))",  // 3
		"group 3 0 0 0 acc both(count,min)",  // 4
		"window 4 2 10 5 0",                  // 5
		"flatten 2",                          // 6
		"flatten 2,6",                        // 7, not live
		"sink 4",                             // 8
		"each 5 4,5 map(side(1),x,first(x))", // 9, not live
		"sink 0",                             // 10
		"window 3 3 5 0 0",                   // 11
		"sink 11",                            // 12
		"group 11 0 0 0 dis top(3)",          // 13
		"each 13 - list(len(second(it)))",    // 14, not live
		"sink 13",                            // 15
	)
	const some, told = "pair(int,list(text))", "pair(int,pair(int,option(list(text))))"
	wantHas(t, v,
		has{of: "int", weight: 1},
		has{of: "text", weight: 1},
		has{of: "int", win: fixed, weight: 1},
		has{of: some, win: fixed, weight: 4, fn: "list(" + some + ")"},
		has{of: told, win: fixed, weight: 4, acc: "pair(int,option(list(text)))", outcome: "pair(int,option(list(text)))"},
		has{of: told, win: sliding, weight: 8},
		has{of: "int", win: fixed, weight: 1},
		has{of: "int", win: fixed, weight: 2},
		has{of: told, win: fixed, weight: 4},
		has{of: "int", win: sliding, weight: 32, fn: "list(int)"},
		has{of: "int", weight: 1},
		has{of: some, win: sessions, weight: 4},
		has{of: some, win: sessions, weight: 4},
		has{of: "pair(int,list(list(text)))", win: sessions, weight: 4, acc: "list(list(text))", outcome: "list(list(text))"},
		has{of: "int", win: sessions, weight: 16, fn: "list(int)"},
		has{of: "pair(int,list(list(text)))", win: sessions, weight: 4},
	)
}

// P12.2: a Source has the window of all times and its Type, whatever that is.
func TestSources(t *testing.T) {
	for _, of := range []string{"bool", "int", "text", "bytes", "point", "pair(int,option(text))", "list(list(list(list(list(int)))))", "option(pair(point,bytes))"} {
		wantHas(t, valid(t, "source "+of, "flatten 0", "sink 1"), has{of: of, weight: 1}, has{of: of, weight: 1}, has{of: of, weight: 1})
	}
}

// P12.2: a Window has what its In has, in its own windows, whatever windows that has.
func TestWindows(t *testing.T) {
	wantHas(t, valid(t, "source bool", "window 0 1 10 0 3", "window 1 0 0 0 0", "window 2 2 11 5 4", "window 3 3 7 0 0", "window 4 1 10 0 0", "sink 5"),
		has{of: "bool", weight: 1},
		has{of: "bool", weight: 1, win: window.Fn{Kind: window.Fixed, Size: 10, Offset: 3}},
		has{of: "bool", weight: 1},
		has{of: "bool", weight: 3, win: window.Fn{Kind: window.Sliding, Size: 11, Period: 5, Offset: 4}},
		has{of: "bool", weight: 3, win: window.Fn{Kind: window.Sessions, Size: 7}},
		has{of: "bool", weight: 3, win: fixed},
		has{of: "bool", weight: 3, win: fixed},
	)
}

// P12.2: what an Each emits hangs on what its In and its Sides have, these in their order.
func TestEachs(t *testing.T) {
	for _, x := range []struct{ line, of string }{
		{"each 0 - list(it)", "int"},
		{"each 1 - list(it)", "text"},
		{"each 2 - list(second(it),first(it))", "int"},
		{"each 2 - nil(option(bool))", "option(bool)"},
		{"each 0 1 side(0)", "text"},
		{"each 1 0 side(0)", "int"},
		{"each 0 1,2 side(0)", "text"},
		{"each 0 1,2 side(1)", "pair(int,int)"},
		{"each 0 0,1,2 list(side(2))", "list(pair(int,int))"},
		{"each 0 0,1,2,3 list(pair(side(3),pair(side(0),it)))", "pair(list(point),pair(list(int),int))"},
		{"each 3 - range(re(it))", "int"},
	} {
		v := valid(t, "source int", "source text", pairs, "source point", x.line, "sink 4")
		of, ok := v.Type(4)
		fn, is := v.Fn(4)
		if textOf(of) != x.of || !ok || fnText(fn) != "list("+x.of+")" || !is {
			t.Errorf("%s: %s, %v, %s, %v; want %s", x.line, textOf(of), ok, fnText(fn), is, x.of)
		}
	}
}

// P12.2: the function of an Each is the one of its Text, with its Sides.
func TestFn(t *testing.T) {
	v := valid(t, "source int", "each 0 - list(it, add(it,1))", "each 1 0,1 concat(side(1),cons(it,side(0)))", "sink 2")
	first, _ := v.Fn(1)
	if got, e := first.Emit(num(7)); e != api.OK || !same(row(got...), row(num(7), num(8))) {
		t.Errorf("Emit: %v, %d; want 7 and 8", got, e)
	}
	second, _ := v.Fn(2)
	if got, e := second.Emit(num(7), row(num(1)), row(num(2), num(3))); e != api.OK || !same(row(got...), row(num(2), num(3), num(7), num(1))) {
		t.Errorf("Emit: %v, %d; want 2, 3, 7 and 1", got, e)
	}
	if _, e := second.Emit(num(7), row(num(1))); e != api.ErrValue {
		t.Errorf("Emit with one side: %d; want ErrValue", e)
	}
	if again, _ := v.Fn(2); again != second {
		t.Errorf("Fn tells another function")
	}
}

// P12.2: the combiner of a Group is the one of its Text, with the second of what the pairs of its In have.
func TestOp(t *testing.T) {
	for _, x := range []struct{ in, text, acc, outcome, of string }{
		{"pair(int,int)", "sum", "int", "int", "pair(int,int)"},
		{"pair(text,int)", "sum", "int", "int", "pair(text,int)"},
		{"pair(int,text)", "count", "int", "int", "pair(int,int)"},
		{"pair(text,int)", "mean", "pair(int,int)", "int", "pair(text,int)"},
		{"pair(bool,point)", "spin", "point", "point", "pair(bool,point)"},
		{"pair(bytes,text)", "min", "option(text)", "option(text)", "pair(bytes,option(text))"},
		{"pair(list(int),bool)", "max", "option(bool)", "option(bool)", "pair(list(int),option(bool))"},
		{"pair(pair(int,int),pair(int,text))", "all", "list(pair(int,text))", "list(pair(int,text))", "pair(pair(int,int),list(pair(int,text)))"},
		{"pair(point,bytes)", "set", "list(bytes)", "list(bytes)", "pair(point,list(bytes))"},
		{"pair(int,int)", "top(16)", "list(int)", "list(int)", "pair(int,list(int))"},
		{"pair(int,int)", "both(mean,both(sum,max))", "pair(pair(int,int),pair(int,option(int)))", "pair(int,pair(int,option(int)))", "pair(int,pair(int,pair(int,option(int))))"},
	} {
		v := valid(t, "source "+x.in, "group 0 0 0 0 acc "+x.text, "sink 1")
		wantHas(t, v, has{of: x.in, weight: 1}, has{of: x.of, weight: 1, acc: x.acc, outcome: x.outcome}, has{of: x.of, weight: 1})
	}
	v := valid(t, pairs, "group 0 0 0 0 acc top(2)", "sink 1")
	op, _ := v.Op(1)
	if got, e := op.Add(op.Create(), num(5), num(9), num(7)); e != api.OK || !same(got, row(num(9), num(7))) {
		t.Errorf("Add: %v, %d; want 9 and 7", got, e)
	}
	if again, _ := v.Op(1); again != op {
		t.Errorf("Op tells another combiner")
	}
}

// P12.2: a Group waits, if its Early or Lateness is not 0; nothing else does.
func TestWaits(t *testing.T) {
	for group, waits := range map[string]bool{
		"0 0 0 acc": false, "0 0 0 dis": false, "1 0 0 acc": true, "1000 0 0 dis": true, "0 0 1 acc": true, "0 0 1048576 dis": true, "0 1 1 acc": true, "0 1000 5 dis": true, "2 0 3 acc": true, "2 2 3 dis": true,
	} {
		v := valid(t, pairs, "window 0 1 10 0 0", "flatten 1", "each 2 - list(it)", "group 3 "+group+" sum", "sink 4")
		for i := range v.Len() {
			if got := v.Waits(i); got != (waits && i == 4) {
				t.Errorf("group %s: Waits(%d): %v", group, i, got)
			}
		}
	}
}

// P12.2: Pipeline tells what New was told.
func TestPipeline(t *testing.T) {
	for _, lines := range [][]string{
		{pairs, "sink 0"},
		{"source int", "each 0 - list( pair(mod(it,2) ,it) )", "group 1 0 0 0 acc sum", "sink 2"},
		{pairs, "source list(option(text))", "window 0 2 10 5 4", "group 2 3 2 7 acc both(sum,top(3))", "flatten 2", "flatten 2,4", "each 5 0,1 list(side(1))", "sink 3", "sink 6", "sink 2"},
	} {
		p := pipe(lines...)
		v, at, e := New(p)
		if at != 0 || e != api.OK {
			t.Fatalf("New(%s): %d, %d", show(p), at, e)
		}
		if got := v.Pipeline(); !alike(got, p) || v.Len() != len(p.Nodes) {
			t.Errorf("Pipeline: %s, Len: %d; want %s", show(got), v.Len(), show(p))
		}
	}
}
