package valid

import (
	"fmt"
	"math/rand"
	"slices"
	"strings"
	"testing"

	"watershed/api"
	"watershed/check"
	"watershed/combine"
	"watershed/eval"
	"watershed/expr"
	"watershed/graph"
	"watershed/kind"
	"watershed/window"
)

// book is what the chapter says that the nodes of a pipeline have: set down a second time, each time looked up from the beginning.
type book struct{ nodes []graph.Node }

func (b book) win(i int) window.Fn {
	switch n := b.nodes[i]; n.Op {
	case 1:
		return window.Fn{}
	case 3:
		return n.Fn
	}
	return b.win(b.nodes[i].In[0])
}

// of tells the type of a node's values, as text.
func (b book) of(i int) string {
	n := b.nodes[i]
	switch n.Op {
	case 1:
		return textOf(n.Type)
	case 2:
		f, _, _ := expr.Parse(n.Text)
		of, _, _ := check.Emits(f, b.env(i))
		return textOf(of)
	case 4:
		k, v := b.pair(n.In[0])
		o, e := combine.New(b.comb(i), v)
		if e != api.OK {
			return ""
		}
		_, w := o.Types()
		return "pair(" + textOf(k) + "," + textOf(w) + ")"
	}
	return b.of(n.In[0])
}

// pair tells k and v of a node that has pair(k,v).
func (b book) pair(i int) (k, v kind.Type) {
	t := typeOf(b.of(i))
	return t.Args[0], t.Args[1]
}

func (b book) comb(i int) combine.Comb {
	c, _, _ := combine.Parse(b.nodes[i].Text)
	return c
}

func (b book) env(i int) check.Env {
	n := b.nodes[i]
	env := check.Env{It: typeOf(b.of(n.In[0]))}
	for _, s := range n.Side {
		env.Sides = append(env.Sides, kind.Type{Kind: api.List, Args: []kind.Type{typeOf(b.of(s))}})
	}
	return env
}

func (b book) weight(i int) int {
	n := b.nodes[i]
	if n.Op == 1 {
		return 1
	}
	sum := 0
	for _, in := range n.In {
		sum += b.weight(in)
	}
	if n.Op == 2 {
		sum *= 4
	}
	if n.Op == 3 && n.Fn.Kind == 2 {
		many := 0
		for at := 0; at < n.Fn.Size; at += n.Fn.Period {
			many++
		}
		sum *= many
	}
	return sum
}

func (b book) waits(i int) bool {
	return b.nodes[i].Op == 4 && b.nodes[i].Trig.Early+b.nodes[i].Trig.Lateness > 0
}

func (b book) merged(i int) bool {
	n := b.nodes[i]
	if n.Op == 1 || n.Op == 3 {
		return false
	}
	if n.Op == 4 {
		return b.win(i).Kind == 3
	}
	return slices.ContainsFunc(n.In, b.merged)
}

// fault tells what is wrong with the node i, if there is nothing wrong with those ahead of it.
func (b book) fault(i int) api.Errno {
	n := b.nodes[i]
	faults := map[int]func() api.Errno{2: func() api.Errno { return b.eachFault(i) }, 4: func() api.Errno { return b.groupFault(i) }}
	if fault, is := faults[n.Op]; is {
		if e := fault(); e != 0 {
			return e
		}
	}
	if n.Op == 5 {
		for _, a := range n.In {
			for _, c := range n.In {
				if b.of(a) != b.of(c) || b.win(a) != b.win(c) {
					return 122
				}
			}
		}
	}
	if b.weight(i) > 256 {
		return 125
	}
	return 0
}

func (b book) eachFault(i int) api.Errno {
	n := b.nodes[i]
	f, _, e := expr.Parse(n.Text)
	if e != 0 {
		return 40
	}
	for _, s := range n.Side {
		if b.win(s).Kind == 3 {
			return 70
		}
	}
	_, _, e = check.Emits(f, b.env(i))
	return e
}

func (b book) groupFault(i int) api.Errno {
	n := b.nodes[i]
	if !strings.HasPrefix(b.of(n.In[0]), "pair(") {
		return 121
	}
	if _, _, e := combine.Parse(n.Text); e != 0 {
		return 40
	}
	if _, _, e := kind.Parse(b.of(i)); e != 0 {
		return 80
	}
	if b.merged(n.In[0]) {
		return 70
	}
	if b.waits(i) && b.win(i).Kind == 3 {
		return 123
	}
	return 0
}

// inner: is it a Group that waits, and may not?
func (b book) inner(p graph.Pipeline, i int) bool {
	if !b.waits(i) {
		return false
	}
	op, _ := combine.New(b.comb(i), func() kind.Type { _, v := b.pair(b.nodes[i].In[0]); return v }())
	dis := !b.nodes[i].Trig.Accumulate
	bad := dis && !op.Plain()
	for _, u := range graph.Users(p, i) {
		bad = bad || dis && b.nodes[u].Op != 6
	}
	for other, n := range b.nodes {
		above := slices.Contains(graph.Above(p, other), i)
		bad = bad || above && n.Op == 4
		for _, m := range b.nodes {
			bad = bad || (above || other == i) && slices.Contains(m.Side, other)
		}
	}
	return bad
}

// plainNew is New as P12.1 says it.
func plainNew(p graph.Pipeline) (at int, e api.Errno) {
	if at, e := graph.Check(p); e != 0 {
		return at, e
	}
	b := book{p.Nodes}
	sinks := 0
	for i, n := range p.Nodes {
		if e := b.fault(i); e != 0 {
			return i, e
		}
		if n.Op == 6 {
			sinks++
		}
	}
	for i := range p.Nodes {
		if b.inner(p, i) {
			return i, 123
		}
	}
	if sinks == 0 {
		return 0, 124
	}
	return 0, 0
}

// plainHas tells what the nodes of a valid pipeline have.
func plainHas(p graph.Pipeline) []has {
	b := book{p.Nodes}
	var all []has
	for i, n := range p.Nodes {
		h := has{of: b.of(i), win: b.win(i), weight: b.weight(i), waits: b.waits(i)}
		switch n.Op {
		case 2:
			h.fn = "list(" + h.of + ")"
		case 4:
			_, v := b.pair(n.In[0])
			op, _ := combine.New(b.comb(i), v)
			h.acc, h.outcome = opTexts(op)
		}
		all = append(all, h)
	}
	return all
}

// wantPlain: all calls tell of a pipeline what the chapter says.
func wantPlain(t *testing.T, p graph.Pipeline) api.Errno {
	t.Helper()
	place, want := plainNew(p)
	v, at, e := New(p)
	if at != place || e != want || (v == nil) != (e != api.OK) {
		t.Fatalf("New(%s): %v, %d, %d; want %d, %d", show(p), v != nil, at, e, place, want)
	}
	if want != api.OK {
		return want
	}
	wantHas(t, v, plainHas(p)...)
	if got := v.Pipeline(); !alike(got, p) {
		t.Errorf("Pipeline: %s", show(got))
	}
	for i := range p.Nodes {
		wantSameFn(t, v, p, i)
	}
	if t.Failed() {
		t.Fatalf("of %s", show(p))
	}
	return api.OK
}

// wantSameFn: the function of an Each answers as one that is made anew; so does the combiner of a Group.
func wantSameFn(t *testing.T, v *Valid, p graph.Pipeline, i int) {
	t.Helper()
	b := book{p.Nodes}
	if fn, ok := v.Fn(i); ok {
		f, _, _ := expr.Parse(p.Nodes[i].Text)
		other, _ := eval.New(f, b.env(i))
		it, _ := kind.Zero(typeOf(b.of(p.Nodes[i].In[0])))
		var sides []api.Value
		for _, s := range p.Nodes[i].Side {
			zero, _ := kind.Zero(typeOf(b.of(s)))
			sides = append(sides, row(zero, zero))
		}
		got, fuel, e := fn.Run(it, sides...)
		want, most, wrong := other.Run(it, sides...)
		if !same(got, want) || fuel != most || e != wrong {
			t.Errorf("Run of the function %d: %v, %d, %d; want %v, %d, %d", i, got, fuel, e, want, most, wrong)
		}
	}
	if op, ok := v.Op(i); ok {
		_, second := b.pair(p.Nodes[i].In[0])
		other, _ := combine.New(b.comb(i), second)
		zero, _ := kind.Zero(second)
		got, e := op.Add(op.Create(), zero, zero)
		want, wrong := other.Add(other.Create(), zero, zero)
		if !same(got, want) || e != wrong || op.Plain() != other.Plain() {
			t.Errorf("Add of the combiner %d: %v, %d; want %v, %d", i, got, e, want, wrong)
		}
	}
}

// some makes pipelines from any numbers.
type some struct{ *rand.Rand }

func (r some) of(all ...string) string { return all[r.Intn(len(all))] }

// place tells one of a node that a node may read from, most often one that stands late.
func (r some) place(ops []string) int {
	for {
		at := r.Intn(len(ops))
		if r.Intn(2) == 0 {
			at = len(ops) - 1 - r.Intn(min(3, len(ops)))
		}
		if ops[at] != "sink" {
			return at
		}
	}
}

// places tells up to so many of them, rising.
func (r some) places(ops []string, many int) string {
	var all []int
	for range many {
		all = append(all, r.place(ops))
	}
	slices.Sort(all)
	var texts []string
	for _, at := range slices.Compact(all) {
		texts = append(texts, fmt.Sprint(at))
	}
	return strings.Join(texts, ",")
}

// line tells a line that may stand behind those of these ops.
func (r some) line(ops []string) string {
	in := fmt.Sprint(r.place(ops), " ")
	switch r.Intn(16) {
	case 0:
		return "source " + r.of("int", "pair(int,int)", "pair(int,int)", "pair(text,option(int))", "pair(int,list(list(list(list(int)))))")
	case 1, 2, 3:
		return "each " + in + "- " + r.of("list(it)", "list(it)", "list(it)", "list(it,it)", "list(pair(it,1))", "list(pair(1,7))", "list(pair(1,7))", "list(second(it))", "it", "list(", "x", "list(list(it))")
	case 4, 5:
		return "each " + in + r.places(ops, 1+r.Intn(4)) + " " + r.of("list(it)", "list(it)", "list(it)", "side(0)", "list(pair(it,len(side(0))))", "side(3)", "list(side(0))")
	case 6, 7, 8:
		return "window " + in + r.of("0 0 0 0", "1 10 0 0", "1 10 0 0", "1 10 0 3", "2 10 5 0", "2 11 5 0", "2 6 5 4", "2 16 1 0", "3 5 0 0", "3 5 0 0", "3 7 0 0")
	case 9, 10, 11:
		trig := r.of("0 0 0", "0 0 0", "0 0 0", "2 0 0", "0 0 5", "3 1 5") + r.of(" acc ", " acc ", " dis ")
		return "group " + in + trig + r.of("sum", "sum", "count", "min", "mean", "all", "both(count,max)", "both(mean,count)", "spin", "su")
	case 12, 13:
		return "flatten " + r.places(ops, 1+r.Intn(4))
	}
	return "sink " + strings.TrimSpace(in)
}

// pipeline tells a right one of so many lines.
func (r some) pipeline(many int) graph.Pipeline {
	lines := []string{"source " + r.of("int", "pair(int,int)", "pair(int,int)", "pair(int,int)")}
	ops := []string{"source"}
	for len(lines) < many {
		lines = append(lines, r.line(ops))
		ops = append(ops, strings.Fields(lines[len(lines)-1])[0])
	}
	return pipe(lines...)
}

// grown tells a pipeline of at most so many lines that has no fault at a node, but for the last: each line that would have one is left out.
func (r some) grown(many int) graph.Pipeline {
	lines := []string{"source " + r.of("int", "pair(int,int)", "pair(int,int)", "pair(int,int)")}
	ops := []string{"source"}
	for range many {
		line := r.line(ops)
		p := pipe(append(slices.Clone(lines), line)...)
		if b := (book{p.Nodes}); b.fault(len(lines)) != 0 {
			continue
		}
		lines, ops = append(lines, line), append(ops, strings.Fields(line)[0])
	}
	return pipe(append(lines, r.line(ops))...)
}

// P12.1, P12.2: any pipelines, with faults and with few, have what the chapter says.
func TestPlain(t *testing.T) {
	r := some{rand.New(rand.NewSource(121))}
	met := map[api.Errno]int{}
	for i := range 6000 {
		p := r.pipeline(2 + r.Intn(9))
		if i%2 == 0 {
			p = r.grown(4 + r.Intn(27))
		}
		met[wantPlain(t, p)]++
	}
	for _, e := range []api.Errno{api.OK, api.ErrSyntax, api.ErrWindow, api.ErrPair, api.ErrCombine, api.ErrMixed, api.ErrInner, api.ErrSink, api.ErrMany, api.ErrType, api.ErrName, api.ErrSide} {
		if met[e] < 25 {
			t.Errorf("too few of %d: %v", e, met)
		}
	}
}

// P12.1: the greatest pipelines, those whose nodes lead to one another in as many ways as may be among them, come to an end.
func TestGreatest(t *testing.T) {
	wide := []string{"source pair(int,int)", "window 0 3 5 0 0", "group 1 0 0 0 acc sum"}
	for i := len(wide); i < 31; i++ {
		wide = append(wide, fmt.Sprintf("flatten %d,%d", i-2, i-1))
	}
	wantNew(t, 14, api.ErrMany, append(slices.Clone(wide), "sink 30")...)
	wantValid(t, append(slices.Clone(wide[:12]), "sink 11")...)
	row, seen := []string{pairs}, []string{"source int"}
	for i := range 30 {
		row = append(row, fmt.Sprintf("group %d 0 0 0 acc sum", i))
		seen = append(seen, fmt.Sprintf("each 0 %d list(size(show(len(side(0)))))", i))
	}
	wantPlain(t, pipe(append(row, "sink 30")...))
	wantPlain(t, pipe(append(seen, "sink 30")...))
}
