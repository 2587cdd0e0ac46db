package denote

import (
	"fmt"
	"slices"
	"strings"
	"testing"

	"watershed/api"
	"watershed/graph"
	"watershed/kind"
	"watershed/valid"
	"watershed/value"
	"watershed/window"
)

// always is Global's window.
var always = window.Window{From: 0, To: api.MaxTime + 1}

var none = api.Value{Kind: api.None}

func truth(n int) api.Value              { return api.Value{Kind: api.Bool, Int: n} }
func num(n int) api.Value                { return api.Value{Kind: api.Int, Int: n} }
func text(s string) api.Value            { return api.Value{Kind: api.Text, Text: s} }
func octets(s string) api.Value          { return api.Value{Kind: api.Bytes, Text: s} }
func pair(a, b api.Value) api.Value      { return api.Value{Kind: api.Pair, List: []api.Value{a, b}} }
func list(values ...api.Value) api.Value { return api.Value{Kind: api.List, List: values} }
func some(v api.Value) api.Value         { return api.Value{Kind: api.Some, List: []api.Value{v}} }
func two(a, b int) api.Value             { return pair(num(a), num(b)) }

// nums tells ints.
func nums(values ...int) []api.Value {
	var all []api.Value
	for _, n := range values {
		all = append(all, num(n))
	}
	return all
}

// sized tells a value of the type list(list(int)) of just this size, if that is from 66 on.
func sized(size int) api.Value {
	top := list()
	for left := size - 1; left > 0; {
		n := min(left, api.MaxList+1)
		top.List = append(top.List, list(nums(make([]int, n-1)...)...))
		left -= n
	}
	return top
}

// ring tells a value that stands in itself.
func ring() api.Value {
	l := []api.Value{none}
	l[0] = some(none)
	l[0].List = l
	return l[0]
}

// say tells a value as text.
func say(v api.Value) string {
	var parts []string
	for _, w := range v.List {
		parts = append(parts, say(w))
	}
	inner := "(" + strings.Join(parts, ",") + ")"
	switch v.Kind {
	case api.Bool:
		return fmt.Sprint(v.Int == 1)
	case api.Int:
		return fmt.Sprint(v.Int)
	case api.Text:
		return fmt.Sprintf("%q", v.Text)
	case api.Bytes:
		return fmt.Sprintf("%x", v.Text)
	case api.Point:
		re, im, _ := value.Parts(v)
		return fmt.Sprintf("%d:%d", re, im)
	case api.None:
		return "none"
	case api.Some:
		return "some" + inner
	case api.List:
		return "list" + inner
	}
	return inner
}

// lines tells values of a node as text: window, time and value of each.
func lines(outs []Out) string {
	var all []string
	for _, x := range outs {
		at := window.Text(x.Win)
		if x.Win == always {
			at = "always"
		}
		all = append(all, fmt.Sprint(at, " ", x.Time, " ", say(x.Value)))
	}
	return strings.Join(all, "; ")
}

// pipe tells the right pipeline of lines.
func pipe(lines ...string) graph.Pipeline {
	s := strings.Join(lines, "\n") + "\n"
	p, at, e := graph.Parse(s)
	if e != api.OK {
		panic(fmt.Sprint("no right pipeline: ", at, " ", e, " ", s))
	}
	return p
}

// made tells the valid pipeline of lines. Behind them stands a Sink of the last node, if it is none.
func made(t *testing.T, lines ...string) *valid.Valid {
	t.Helper()
	lines = slices.Clone(lines)
	if !strings.HasPrefix(lines[len(lines)-1], "sink") {
		lines = append(lines, fmt.Sprint("sink ", len(lines)-1))
	}
	v, at, e := valid.New(pipe(lines...))
	if e != api.OK {
		t.Fatalf("not valid: %s: %d, %d", strings.Join(lines, "; "), at, e)
	}
	return v
}

// typeOf tells the type of a text.
func typeOf(text string) kind.Type {
	t, _, e := kind.Parse(text)
	if e != api.OK {
		panic(text + " is no type")
	}
	return t
}

// at tells items that have ints: a value and a time, a value and a time, ...
func at(numbers ...int) []Item {
	var all []Item
	for i := 0; i < len(numbers); i += 2 {
		all = append(all, Item{num(numbers[i]), numbers[i+1]})
	}
	return all
}

// pairsAt tells items that have pairs of ints: both of them and a time, ...
func pairsAt(numbers ...int) []Item {
	var all []Item
	for i := 0; i < len(numbers); i += 3 {
		all = append(all, Item{two(numbers[i], numbers[i+1]), numbers[i+2]})
	}
	return all
}

// all tells an item of each value, all of one time.
func all(time int, values ...api.Value) []Item {
	var items []Item
	for _, v := range values {
		items = append(items, Item{v, time})
	}
	return items
}

// run tells the values of each node of a valid pipeline.
func run(t *testing.T, v *valid.Valid, input ...[]Item) [][]Out {
	t.Helper()
	outs, e := Run(v, input)
	if e != api.OK || len(outs) != v.Len() {
		t.Fatalf("Run: %d lists, %d; want %d", len(outs), e, v.Len())
	}
	return outs
}

// wantNode: the node i has just these values.
func wantNode(t *testing.T, outs [][]Out, i int, want ...string) {
	t.Helper()
	if got := lines(outs[i]); got != strings.Join(want, "; ") {
		t.Errorf("the node %d has\n%s; want\n%s", i, got, strings.Join(want, "; "))
	}
}

// wantLast: the last node of these lines has just these values.
func wantLast(t *testing.T, of []string, input []Item, want ...string) {
	t.Helper()
	wantNode(t, run(t, made(t, of...), input), len(of)-1, want...)
}

// outs tells values of one window and time.
func outs(win window.Window, time int, values ...api.Value) []Out {
	var all []Out
	for _, v := range values {
		all = append(all, Out{v, time, win})
	}
	return all
}

// win tells a window.
func win(from, to int) window.Window { return window.Window{From: from, To: to} }
