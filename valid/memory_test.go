package valid

import (
	"fmt"
	"strings"
	"testing"
	"unsafe"

	"watershed/api"
	"watershed/graph"
	"watershed/kind"
)

// roomyInts tells places in other memory, with spare room behind them.
func roomyInts(places []int) []int {
	return append(append(make([]int, 0, len(places)+3), places...), 1, 2, 4711)[:len(places)]
}

// roomyType tells a type in other memory, with spare room behind all lists.
func roomyType(t kind.Type) kind.Type {
	args := make([]kind.Type, 0, len(t.Args)+1)
	for _, a := range t.Args {
		args = append(args, roomyType(a))
	}
	args[:cap(args)][len(args)] = kind.Type{Kind: 4711}
	return kind.Type{Kind: t.Kind, Args: args}
}

// roomy tells a pipeline in other memory, with spare room behind all lists.
func roomy(p graph.Pipeline) graph.Pipeline {
	nodes := make([]graph.Node, 0, len(p.Nodes)+2)
	for _, n := range p.Nodes {
		n.In, n.Side, n.Type, n.Text = roomyInts(n.In), roomyInts(n.Side), roomyType(n.Type), strings.Clone(n.Text)
		nodes = append(nodes, n)
	}
	for i := len(nodes); i < cap(nodes); i++ {
		nodes[:cap(nodes)][i] = graph.Node{Op: 4711, In: []int{i}, Side: []int{i}}
	}
	return graph.Pipeline{Nodes: nodes}
}

func seenType(t kind.Type) string {
	s := fmt.Sprint(t.Kind, len(t.Args))
	for _, a := range t.Args[:cap(t.Args)] {
		s += "[" + seenType(a) + "]"
	}
	return s
}

// seen tells all that is in a pipeline, its spare room too.
func seen(p graph.Pipeline) string {
	s := fmt.Sprint(len(p.Nodes))
	for _, n := range p.Nodes[:cap(p.Nodes)] {
		s += fmt.Sprint("{", n.Op, len(n.In), n.In[:cap(n.In)], len(n.Side), n.Side[:cap(n.Side)], seenType(n.Type), n.Fn, n.Trig, n.Text)
	}
	return s
}

// several are pipelines with all kinds of lists in them: valid ones, and one of each fault.
func several() []graph.Pipeline {
	wrong := pipe("source list(int)", "flatten 0", "sink 1")
	wrong.Nodes[2].In[0] = 2
	return []graph.Pipeline{
		pipe("source pair(list(int),option(pair(int,text)))", "source list(option(point))", "window 0 2 10 5 0", "each 2 0,1 list(it,it)", "group 3 0 0 0 acc both(count,min)", "flatten 4", "flatten 2,3", "sink 5", "sink 6", "each 6 1,4,5,6 list(side(3))", "sink 9"),
		pipe(pairs, "window 0 3 5 0 0", "group 1 0 0 0 dis all", "each 2 0 list(list(it))", "sink 3"),
		pipe(pairs, "group 0 3 1 5 dis both(sum,max)", "sink 1"),
		wrong, {},
		pipe("source list(int)", "each 0 0 x", "sink 1"),
		pipe("source pair(int,list(text))", "group 0 0 0 0 acc sum", "sink 1"),
		pipe("source pair(int,list(int))", "group 0 2 0 0 acc max", "each 1 0,1 list(it)", "sink 1"),
		pipe("source list(int)", "source list(text)", "flatten 0,1"),
		pipe("source list(int)", "flatten 0"),
	}
}

// calls makes all calls of a valid pipeline, at all places and some that are none.
func calls(v *Valid) {
	v.Pipeline()
	for i := -2; i < v.Len()+3; i++ {
		v.Type(i)
		v.Win(i)
		v.Fn(i)
		v.Op(i)
		v.Waits(i)
		v.Weight(i)
	}
}

// P12.3: nothing that is handed in is changed, valid or not, its spare room neither.
func TestUntouched(t *testing.T) {
	for k, was := range several() {
		p := roomy(was)
		before := seen(p)
		if v, _, e := New(p); e == api.OK {
			calls(v)
		}
		if seen(p) != before {
			t.Errorf("the pipeline %d was changed", k)
		}
	}
}

// lists are the places in memory that were told or handed in up to now.
type lists map[any]bool

func (l lists) takeInts(places []int) (shared bool) {
	spare := places[:cap(places)]
	for i := range spare {
		shared = shared || l[&spare[i]]
		l[&spare[i]] = true
	}
	return shared
}

func (l lists) takeType(t kind.Type) (shared bool) {
	spare := t.Args[:cap(t.Args)]
	for i := range spare {
		shared = shared || l[&spare[i]]
		l[&spare[i]] = true
		shared = l.takeType(spare[i]) || shared
	}
	return shared
}

// take tells whether a pipeline has memory that was taken before, and takes it.
func (l lists) take(p graph.Pipeline) (shared bool) {
	spare := p.Nodes[:cap(p.Nodes)]
	for i, n := range spare {
		shared = shared || l[&spare[i]]
		l[&spare[i]] = true
		if n.Text != "" {
			shared = shared || l[unsafe.StringData(n.Text)]
			l[unsafe.StringData(n.Text)] = true
		}
		shared = l.takeInts(n.In) || shared
		shared = l.takeInts(n.Side) || shared
		shared = l.takeType(n.Type) || shared
	}
	return shared
}

// P12.3: no two lists of one answer share memory, nor of two answers, nor with what was handed in.
func TestMemory(t *testing.T) {
	for k, was := range several() {
		taken := lists{}
		p := roomy(was)
		taken.take(p)
		v, _, e := New(p)
		if e != api.OK {
			continue
		}
		for range 3 {
			if taken.take(v.Pipeline()) {
				t.Errorf("pipelines told of the pipeline %d share memory", k)
			}
			for i := range p.Nodes {
				if of, _ := v.Type(i); taken.takeType(of) {
					t.Errorf("types told of the pipeline %d share memory", k)
				}
			}
		}
	}
}

// spoilType sets all that is in a type, its spare room too.
func spoilType(t kind.Type) {
	for i, a := range t.Args[:cap(t.Args)] {
		spoilType(a)
		t.Args[:cap(t.Args)][i] = kind.Type{Kind: 4711}
	}
}

func spoilInts(places []int) {
	for i := range places[:cap(places)] {
		places[:cap(places)][i] = 4711
	}
}

// spoil sets all that is in the lists of a pipeline, their spare room too.
func spoil(p graph.Pipeline) {
	for i, n := range p.Nodes[:cap(p.Nodes)] {
		spoilInts(n.In)
		spoilInts(n.Side)
		spoilType(n.Type)
		p.Nodes[:cap(p.Nodes)][i] = graph.Node{Op: 4711}
	}
}

// P12.3: what was handed in and what was told may be changed: that doesn't show in what is told behind it.
func TestApart(t *testing.T) {
	for k, was := range several() {
		p := roomy(was)
		v, _, e := New(p)
		spoil(p)
		if e != api.OK {
			continue
		}
		for range 3 {
			wantHas(t, v, plainHas(was)...)
			got := v.Pipeline()
			if !alike(got, was) {
				t.Errorf("Pipeline of the pipeline %d: %s", k, show(got))
			}
			spoil(got)
			for i := range was.Nodes {
				of, _ := v.Type(i)
				spoilType(of)
				wantSameFn(t, v, was, i)
			}
		}
	}
}

// P12.3: a pipeline that is valid stays so whatever is made, or refused, behind it.
func TestManyAtOnce(t *testing.T) {
	var made []*Valid
	for _, p := range several() {
		v, _, _ := New(p)
		made = append(made, v)
	}
	for k, p := range several() {
		if made[k] != nil {
			wantHas(t, made[k], plainHas(p)...)
		}
	}
}
