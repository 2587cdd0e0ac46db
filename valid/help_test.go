package valid

import (
	"math"
	"slices"
	"strings"
	"testing"

	"watershed/api"
	"watershed/combine"
	"watershed/eval"
	"watershed/graph"
	"watershed/kind"
	"watershed/window"
)

const (
	leastInt = math.MinInt
	mostInt  = math.MaxInt
)

// pairs is a Source whose values a Group may take.
const pairs = "source pair(int,int)"

// typeOf tells the type of a text.
func typeOf(text string) kind.Type {
	t, at, e := kind.Parse(text)
	if e != api.OK {
		panic(text + " is no type: " + text[at:])
	}
	return t
}

// textOf tells the text of a type.
func textOf(t kind.Type) string {
	text, _ := kind.Show(t)
	return text
}

// pipe tells the right pipeline of lines.
func pipe(lines ...string) graph.Pipeline {
	s := strings.Join(lines, "\n") + "\n"
	p, _, e := graph.Parse(s)
	if e != api.OK {
		panic("no right pipeline: " + s)
	}
	return p
}

// show tells a pipeline as lines in one.
func show(p graph.Pipeline) string {
	s, e := graph.Show(p)
	if e != api.OK {
		return "a pipeline that is not right"
	}
	return strings.ReplaceAll(strings.TrimSuffix(s, "\n"), "\n", "; ")
}

// valid tells the valid pipeline of lines.
func valid(t *testing.T, lines ...string) *Valid {
	t.Helper()
	v, at, e := New(pipe(lines...))
	if v == nil || at != 0 || e != api.OK {
		t.Fatalf("New(%s): %v, %d, %d", strings.Join(lines, "; "), v, at, e)
	}
	return v
}

// wantValid: a pipeline of these lines is valid.
func wantValid(t *testing.T, lines ...string) {
	t.Helper()
	wantNew(t, 0, api.OK, lines...)
}

// wantNew: New has this error at this place, or tells a valid pipeline.
func wantNew(t *testing.T, place int, want api.Errno, lines ...string) {
	t.Helper()
	if v, at, e := New(pipe(lines...)); at != place || e != want || (v == nil) != (want != api.OK) {
		t.Errorf("New(%s): %v, %d, %d; want %d, %d", strings.Join(lines, "; "), v != nil, at, e, place, want)
	}
}

// has is what a node has, set down.
type has struct {
	of      string
	win     window.Fn
	weight  int
	fn      string // the type of what its function tells (none: it has none)
	acc     string // the type of its combiner's accumulators (none: it has none)
	outcome string
	waits   bool
}

// wantHas: the nodes of a valid pipeline have just that.
func wantHas(t *testing.T, v *Valid, want ...has) {
	t.Helper()
	if v.Len() != len(want) {
		t.Errorf("Len: %d; want %d", v.Len(), len(want))
	}
	for i, w := range want {
		if of, ok := v.Type(i); textOf(of) != w.of || !ok {
			t.Errorf("Type(%d): %s, %v; want %s", i, textOf(of), ok, w.of)
		}
		if win, ok := v.Win(i); win != w.win || !ok {
			t.Errorf("Win(%d): %v, %v; want %v", i, win, ok, w.win)
		}
		if weight := v.Weight(i); weight != w.weight {
			t.Errorf("Weight(%d): %d; want %d", i, weight, w.weight)
		}
		if waits := v.Waits(i); waits != w.waits {
			t.Errorf("Waits(%d): %v; want %v", i, waits, w.waits)
		}
		fn, ok := v.Fn(i)
		if got := fnText(fn); got != w.fn || ok != (w.fn != "") {
			t.Errorf("Fn(%d): %s, %v; want %s", i, got, ok, w.fn)
		}
		op, ok := v.Op(i)
		if acc, outcome := opTexts(op); acc != w.acc || outcome != w.outcome || ok != (w.acc != "") {
			t.Errorf("Op(%d): %s, %s, %v; want %s, %s", i, acc, outcome, ok, w.acc, w.outcome)
		}
	}
	for _, i := range noPlaces(len(want)) {
		wantNothing(t, v, i)
	}
}

// fnText tells the type of what a function tells.
func fnText(fn *eval.Fn) string {
	if fn == nil {
		return ""
	}
	return textOf(fn.Type())
}

// opTexts tells the types of a combiner's accumulators and outcomes.
func opTexts(op *combine.Op) (acc, outcome string) {
	if op == nil {
		return "", ""
	}
	a, o := op.Types()
	return textOf(a), textOf(o)
}

// noPlaces are places at which there is no node, if there are so many.
func noPlaces(many int) []int {
	return []int{-1, -2, -many, leastInt, leastInt + 1, many, many + 1, api.MaxNodes, 1 << 32, -1 << 32, mostInt}
}

// wantNothing: no call tells anything of the place i.
func wantNothing(t *testing.T, v *Valid, i int) {
	t.Helper()
	of, ok := v.Type(i)
	if of.Kind != 0 || of.Args != nil || ok {
		t.Errorf("Type(%d): %v, %v; want none", i, of, ok)
	}
	if win, ok := v.Win(i); win != (window.Fn{}) || ok {
		t.Errorf("Win(%d): %v, %v; want none", i, win, ok)
	}
	if fn, ok := v.Fn(i); fn != nil || ok {
		t.Errorf("Fn(%d): %v, %v; want none", i, fn, ok)
	}
	if op, ok := v.Op(i); op != nil || ok {
		t.Errorf("Op(%d): %v, %v; want none", i, op, ok)
	}
	if v.Waits(i) || v.Weight(i) != 0 {
		t.Errorf("Waits(%d), Weight(%d): %v, %d; want none", i, i, v.Waits(i), v.Weight(i))
	}
}

// alike: have two pipelines the same nodes?
func alike(p, q graph.Pipeline) bool {
	return slices.EqualFunc(p.Nodes, q.Nodes, func(n, m graph.Node) bool {
		return n.Op == m.Op && slices.Equal(n.In, m.In) && slices.Equal(n.Side, m.Side) && n.Text == m.Text && sameType(n.Type, m.Type) && n.Fn == m.Fn && n.Trig == m.Trig
	})
}

func sameType(a, b kind.Type) bool {
	return a.Kind == b.Kind && slices.EqualFunc(a.Args, b.Args, sameType)
}

func num(n int) api.Value          { return api.Value{Kind: api.Int, Int: n} }
func two(a, b api.Value) api.Value { return api.Value{Kind: api.Pair, List: []api.Value{a, b}} }
func row(all ...api.Value) api.Value {
	return api.Value{Kind: api.List, List: all}
}

// same: are they one and the same value?
func same(a, b api.Value) bool {
	return a.Kind == b.Kind && a.Int == b.Int && a.Text == b.Text && a.Point == b.Point && slices.EqualFunc(a.List, b.List, same)
}
