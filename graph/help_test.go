package graph

import (
	"math"
	"reflect"
	"strings"
	"testing"

	"watershed/api"
	"watershed/kind"
	"watershed/trigger"
	"watershed/window"
)

const (
	leastInt = math.MinInt
	mostInt  = math.MaxInt
)

var (
	fixed = window.Fn{Kind: window.Fixed, Size: 10}
	plain = trigger.Spec{Accumulate: true}
)

// typeOf tells the type of a text.
func typeOf(text string) kind.Type {
	t, at, e := kind.Parse(text)
	if e != api.OK {
		panic(text + " is no type: " + text[at:])
	}
	return t
}

func source(text string) Node { return Node{Op: Source, Type: typeOf(text)} }
func each(in int, text string, sides ...int) Node {
	return Node{Op: Each, In: []int{in}, Side: sides, Text: text}
}
func windowed(in int, f window.Fn) Node { return Node{Op: Window, In: []int{in}, Fn: f} }
func group(in int, text string, s trigger.Spec) Node {
	return Node{Op: Group, In: []int{in}, Text: text, Trig: s}
}
func flatten(ins ...int) Node { return Node{Op: Flatten, In: ins} }
func sink(in int) Node        { return Node{Op: Sink, In: []int{in}} }

func pipe(nodes ...Node) Pipeline { return Pipeline{Nodes: nodes} }

// ofEach are right nodes of each Op, all of which may stand at the place 1 behind a Source.
func ofEach() []Node {
	return []Node{source("int"), each(0, "list(it)"), windowed(0, fixed), group(0, "sum", plain), flatten(0), sink(0)}
}

// sources are so many Sources.
func sources(many int) []Node {
	var nodes []Node
	for range many {
		nodes = append(nodes, source("int"))
	}
	return nodes
}

// bare tells a node with nil in place of each list that is empty.
func bare(n Node) Node {
	if len(n.In) == 0 {
		n.In = nil
	}
	if len(n.Side) == 0 {
		n.Side = nil
	}
	n.Type = bareType(n.Type)
	return n
}

func bareType(t kind.Type) kind.Type {
	var args []kind.Type
	for _, a := range t.Args {
		args = append(args, bareType(a))
	}
	return kind.Type{Kind: t.Kind, Args: args}
}

// alike: have two pipelines the same nodes?
func alike(p, q Pipeline) bool {
	if len(p.Nodes) != len(q.Nodes) {
		return false
	}
	for i := range p.Nodes {
		if !reflect.DeepEqual(bare(p.Nodes[i]), bare(q.Nodes[i])) {
			return false
		}
	}
	return true
}

// none: is nothing set in a pipeline?
func none(p Pipeline) bool { return len(p.Nodes) == 0 }

// wantRefused: Check has this error at this place; Show has it, too; and there are no Users, nothing above, nothing live.
func wantRefused(t *testing.T, what string, p Pipeline, at int, want api.Errno) {
	t.Helper()
	if got, e := Check(p); got != at || e != want {
		t.Errorf("Check of %s: %d, %d; want %d, %d", what, got, e, at, want)
	}
	if text, e := Show(p); text != "" || e != want {
		t.Errorf("Show of %s: %q, %d; want %d", what, text, e, want)
	}
	for _, i := range []int{-1, 0, 1, at, len(p.Nodes) - 1} {
		if users, above := Users(p, i), Above(p, i); len(users) != 0 || len(above) != 0 {
			t.Errorf("%s is not right, but has Users %v and Above %v of %d", what, users, above, i)
		}
	}
	if live := Live(p); len(live) != 0 {
		t.Errorf("%s is not right, but %v are live in it", what, live)
	}
}

// wantRight: Check and Show have it right; its text is read as the same, and just that text is shown of what is read.
func wantRight(t *testing.T, what string, p Pipeline) {
	t.Helper()
	if at, e := Check(p); at != 0 || e != api.OK {
		t.Errorf("Check of %s: %d, %d; want OK", what, at, e)
		return
	}
	text, e := Show(p)
	if e != api.OK || text == "" {
		t.Errorf("Show of %s: %q, %d", what, text, e)
	}
	back, at, e := Parse(text)
	if at != 0 || e != api.OK || !alike(back, p) {
		t.Errorf("Parse of the text of %s, %q: %v, %d, %d", what, text, back, at, e)
	}
	if again, e := Show(back); again != text || e != api.OK {
		t.Errorf("Show of what is read of %q: %q, %d", text, again, e)
	}
}

// wantNode: the node behind those that stand ahead of it is right, or just it has this error.
func wantNode(t *testing.T, what string, ahead []Node, n Node, want api.Errno) {
	t.Helper()
	p := pipe(append(append([]Node(nil), ahead...), n)...)
	if want == api.OK {
		wantRight(t, what, p)
	} else {
		wantRefused(t, what, p, len(ahead), want)
	}
}

// wantSyntax: Parse finds the first line that is none at this number.
func wantSyntax(t *testing.T, s string, line int) {
	t.Helper()
	if p, at, e := Parse(s); at != line || e != api.ErrSyntax || !none(p) {
		t.Errorf("Parse(%.200q): %v, %d, %d; want %d, ErrSyntax", s, p, at, e, line)
	}
}

// wantCheck: Parse has Check's error at this place.
func wantCheck(t *testing.T, s string, place int, want api.Errno) {
	t.Helper()
	if p, at, e := Parse(s); at != place || e != want || !none(p) {
		t.Errorf("Parse(%.200q): %v, %d, %d; want %d, %d", s, p, at, e, place, want)
	}
}

// wantText: Parse tells this pipeline, and Show tells the text of it.
func wantText(t *testing.T, s string, want Pipeline) {
	t.Helper()
	if p, at, e := Parse(s); at != 0 || e != api.OK || !alike(p, want) {
		t.Errorf("Parse(%.200q): %v, %d, %d; want %v", s, p, at, e, want)
	}
	if text, e := Show(want); text != s || e != api.OK {
		t.Errorf("Show: %.200q, %d; want %.200q", text, e, s)
	}
}

// lines tells texts as lines.
func lines(texts ...string) string { return strings.Join(texts, "\n") + "\n" }
