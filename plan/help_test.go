package plan

import (
	"fmt"
	"slices"
	"strings"
	"testing"

	"watershed/api"
	"watershed/denote"
	"watershed/graph"
	"watershed/valid"
	"watershed/value"
	"watershed/window"
)

// always is Global's window.
var always = window.Window{From: 0, To: api.MaxTime + 1}

var none = api.Value{Kind: api.None}

func truth(n int) api.Value              { return api.Value{Kind: api.Bool, Int: n} }
func num(n int) api.Value                { return api.Value{Kind: api.Int, Int: n} }
func text(s string) api.Value            { return api.Value{Kind: api.Text, Text: s} }
func octets(s string) api.Value          { return api.Value{Kind: api.Bytes, Text: s} }
func pair(a, b api.Value) api.Value      { return api.Value{Kind: api.Pair, List: []api.Value{a, b}} }
func list(values ...api.Value) api.Value { return api.Value{Kind: api.List, List: values} }
func some(v api.Value) api.Value         { return api.Value{Kind: api.Some, List: []api.Value{v}} }
func two(a, b int) api.Value             { return pair(num(a), num(b)) }

// nums tells ints.
func nums(values ...int) []api.Value {
	var all []api.Value
	for _, n := range values {
		all = append(all, num(n))
	}
	return all
}

// sized tells a value of the type list(list(int)) of just this size, if that is from 66 on.
func sized(size int) api.Value {
	top := list()
	for left := size - 1; left > 0; {
		n := min(left, api.MaxList+1)
		top.List = append(top.List, list(nums(make([]int, n-1)...)...))
		left -= n
	}
	return top
}

// ring tells a value that stands in itself.
func ring() api.Value {
	l := []api.Value{none}
	l[0] = some(none)
	l[0].List = l
	return l[0]
}

// say tells a value as text.
func say(v api.Value) string {
	var parts []string
	for _, w := range v.List {
		parts = append(parts, say(w))
	}
	inner := "(" + strings.Join(parts, ",") + ")"
	switch v.Kind {
	case api.Bool:
		return fmt.Sprint(v.Int == 1)
	case api.Int:
		return fmt.Sprint(v.Int)
	case api.Text:
		return fmt.Sprintf("%q", v.Text)
	case api.Bytes:
		return fmt.Sprintf("%x", v.Text)
	case api.Point:
		re, im, _ := value.Parts(v)
		return fmt.Sprintf("%d:%d", re, im)
	case api.None:
		return "none"
	case api.Some:
		return "some" + inner
	case api.List:
		return "list" + inner
	}
	return inner
}

// lines tells values of a node as text: window, time and value of each.
func lines(outs []denote.Out) string {
	var all []string
	for _, x := range outs {
		at := window.Text(x.Win)
		if x.Win == always {
			at = "always"
		}
		all = append(all, fmt.Sprint(at, " ", x.Time, " ", say(x.Value)))
	}
	return strings.Join(all, "; ")
}

// lists tells the values of several nodes as text, one line each.
func lists(all [][]denote.Out) string {
	s := fmt.Sprint(len(all), " lists")
	for _, outs := range all {
		s += "\n" + lines(outs)
	}
	return s
}

// result tells a result as text.
func result(r Result) string {
	return "Outs: " + lists(r.Outs) + "\nSinks: " + lists(r.Sinks) + "\nKept: " + lists(r.Kept)
}

// stage tells a stage as text: what is empty is left out.
func stage(s Stage) string {
	all := fmt.Sprint(s.Head)
	for _, x := range []struct {
		name   string
		places []int
	}{{" nodes", s.Nodes}, {" outs", s.Outs}, {" sinks", s.Sinks}, {" kept", s.Kept}} {
		if len(x.places) > 0 {
			all += x.name + fmt.Sprint(x.places)
		}
	}
	return all
}

// stages tells the stages of a plan as texts.
func stages(p *Plan) []string {
	var all []string
	for _, s := range p.Stages() {
		all = append(all, stage(s))
	}
	return all
}

// made tells the valid pipeline of lines.
func made(t *testing.T, lines ...string) *valid.Valid {
	t.Helper()
	s := strings.Join(lines, "\n") + "\n"
	p, at, e := graph.Parse(s)
	if e != api.OK {
		t.Fatalf("no right pipeline: %s: %d, %d", s, at, e)
	}
	v, at, e := valid.New(p)
	if e != api.OK {
		t.Fatalf("not valid: %s: %d, %d", s, at, e)
	}
	return v
}

// show tells the text of a valid pipeline.
func show(v *valid.Valid) string {
	s, _ := graph.Show(v.Pipeline())
	return s
}

// planned tells the plan of lines.
func planned(t *testing.T, lines ...string) *Plan {
	t.Helper()
	return Make(made(t, lines...))
}

// wantStages: the plan of these lines has just these stages.
func wantStages(t *testing.T, of []string, want ...string) *Plan {
	t.Helper()
	v := made(t, of...)
	p := Make(v)
	if got := stages(p); !slices.Equal(got, want) {
		t.Errorf("the stages of\n%sare\n%s; want\n%s", show(v), strings.Join(got, "\n"), strings.Join(want, "\n"))
	}
	return p
}

// at tells items that have ints: a value and a time, a value and a time, ...
func at(numbers ...int) []denote.Item {
	var all []denote.Item
	for i := 0; i < len(numbers); i += 2 {
		all = append(all, denote.Item{Value: num(numbers[i]), Time: numbers[i+1]})
	}
	return all
}

// pairsAt tells items that have pairs of ints: both of them and a time, ...
func pairsAt(numbers ...int) []denote.Item {
	var all []denote.Item
	for i := 0; i < len(numbers); i += 3 {
		all = append(all, denote.Item{Value: two(numbers[i], numbers[i+1]), Time: numbers[i+2]})
	}
	return all
}

// all tells an item of each value, all of one time.
func all(time int, values ...api.Value) []denote.Item {
	var items []denote.Item
	for _, v := range values {
		items = append(items, denote.Item{Value: v, Time: time})
	}
	return items
}

// outs tells values of one window and time.
func outs(win window.Window, time int, values ...api.Value) []denote.Out {
	var all []denote.Out
	for _, v := range values {
		all = append(all, denote.Out{Value: v, Time: time, Win: win})
	}
	return all
}

// win tells a window.
func win(from, to int) window.Window { return window.Window{From: from, To: to} }

// run tells what becomes of values of a stage.
func run(t *testing.T, p *Plan, stage int, values ...denote.Out) Result {
	t.Helper()
	r, e := p.Run(stage, values...)
	if e != api.OK {
		t.Fatalf("Run of the stage %d with %s: %d", stage, lines(values), e)
	}
	return r
}

// wantLists: these are just the lists.
func wantLists(t *testing.T, what string, got [][]denote.Out, want ...string) {
	t.Helper()
	var texts []string
	for _, outs := range got {
		texts = append(texts, lines(outs))
	}
	if !slices.Equal(texts, want) {
		t.Errorf("%s: %q; want %q", what, texts, want)
	}
}

// wantBatch: the Sinks have just these values, as layer 13's Run has them, too.
func wantBatch(t *testing.T, v *valid.Valid, input [][]denote.Item, want ...string) {
	t.Helper()
	got, e := Make(v).Batch(input)
	if e != api.OK {
		t.Fatalf("Batch: %d", e)
	}
	wantLists(t, "Batch", got, want...)
	wantLists(t, "layer 13's Run", sunk(t, v, input), want...)
}

// sunk tells what the Sinks have by layer 13's Run.
func sunk(t *testing.T, v *valid.Valid, input [][]denote.Item) [][]denote.Out {
	t.Helper()
	have, e := denote.Run(v, input)
	if e != api.OK {
		t.Fatalf("layer 13's Run: %d", e)
	}
	var sinks [][]denote.Out
	for i, n := range v.Pipeline().Nodes {
		if n.Op == graph.Sink {
			sinks = append(sinks, have[i])
		}
	}
	return sinks
}
