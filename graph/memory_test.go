package graph

import (
	"fmt"
	"slices"
	"strings"
	"testing"
	"unsafe"

	"watershed/api"
	"watershed/kind"
)

// roomyInts tells places in other memory, with spare room behind them.
func roomyInts(places []int) []int {
	return append(append(make([]int, 0, len(places)+3), places...), 1, 2, 4711)[:len(places)]
}

// roomyType tells a type in other memory, with spare room behind all lists.
func roomyType(t kind.Type) kind.Type {
	args := make([]kind.Type, 0, len(t.Args)+1)
	for _, a := range t.Args {
		args = append(args, roomyType(a))
	}
	args[:cap(args)][len(args)] = kind.Type{Kind: 4711}
	return kind.Type{Kind: t.Kind, Args: args}
}

func roomyNode(n Node) Node {
	n.In, n.Side, n.Type = roomyInts(n.In), roomyInts(n.Side), roomyType(n.Type)
	return n
}

// roomy tells a pipeline in other memory, with spare room behind all lists.
func roomy(p Pipeline) Pipeline {
	nodes := make([]Node, 0, len(p.Nodes)+2)
	for _, n := range p.Nodes {
		nodes = append(nodes, roomyNode(n))
	}
	for i := len(nodes); i < cap(nodes); i++ {
		nodes[:cap(nodes)][i] = roomyNode(each(i, "spare", i))
	}
	return Pipeline{Nodes: nodes}
}

func seenType(t kind.Type) string {
	s := fmt.Sprint(t.Kind, len(t.Args))
	for _, a := range t.Args[:cap(t.Args)] {
		s += "[" + seenType(a) + "]"
	}
	return s
}

func seenNode(n Node) string {
	return fmt.Sprint(n.Op, len(n.In), n.In[:cap(n.In)], len(n.Side), n.Side[:cap(n.Side)], seenType(n.Type), n.Fn, n.Trig) + n.Text
}

// seen tells all that is in a pipeline, its spare room too.
func seen(p Pipeline) string {
	s := fmt.Sprint(len(p.Nodes))
	for _, n := range p.Nodes[:cap(p.Nodes)] {
		s += "{" + seenNode(n) + "}"
	}
	return s
}

// several are pipelines, right ones and others, with all kinds of lists in them.
func several() []Pipeline {
	wrong := river()
	wrong.Nodes[5].In[1] = 6
	return []Pipeline{
		river(), wrong, {}, pipe(sources(40)...), pipe(source("int"), flatten(0, 0)), pipe(source("pair(list(int),option(pair(int,list(text))))"), each(0, "x", 0), sink(1)),
		pipe(Node{Op: Source, Type: kind.Type{Kind: api.List}}), pipe(source("pair(int,int)"), source("list(list(int))"), each(0, "x", 0, 1), each(0, "x", 0, 1, 2), flatten(0, 2, 3), flatten(1), sink(4), sink(5)),
	}
}

// P11.5: nothing that is handed in is changed, right or wrong, its spare room neither.
func TestUntouched(t *testing.T) {
	for k, was := range several() {
		p := roomy(was)
		before := seen(p)
		Check(p)
		Show(p)
		Live(p)
		for i := -1; i <= len(p.Nodes); i++ {
			Users(p, i)
			Above(p, i)
		}
		if seen(p) != before {
			t.Errorf("the pipeline %d was changed", k)
		}
		b := NewBuilder()
		for i, n := range p.Nodes {
			node := seenNode(n)
			lay(t, b, i, n)
			b.Done()
			if seenNode(n) != node {
				t.Errorf("the node %d of the pipeline %d was changed", i, k)
			}
		}
	}
}

// lists are the places in memory that were told or handed in up to now.
type lists map[any]bool

// takeInts tells whether a list has memory that was taken before, and takes it.
func (l lists) takeInts(places []int) (shared bool) {
	spare := places[:cap(places)]
	for i := range spare {
		shared = shared || l[&spare[i]]
		l[&spare[i]] = true
	}
	return shared
}

func (l lists) takeType(t kind.Type) (shared bool) {
	spare := t.Args[:cap(t.Args)]
	for i := range spare {
		shared = shared || l[&spare[i]]
		l[&spare[i]] = true
	}
	for _, a := range t.Args {
		shared = l.takeType(a) || shared
	}
	return shared
}

func (l lists) take(p Pipeline) (shared bool) {
	spare := p.Nodes[:cap(p.Nodes)]
	for i := range spare {
		shared = shared || l[&spare[i]]
		l[&spare[i]] = true
	}
	for _, n := range p.Nodes {
		shared = l.takeInts(n.In) || shared
		shared = l.takeInts(n.Side) || shared
		shared = l.takeType(n.Type) || shared
	}
	return shared
}

// P11.5: no two lists of one answer share memory, nor of two answers, nor with what was handed in.
func TestMemory(t *testing.T) {
	taken := lists{}
	for k, was := range several() {
		p := roomy(was)
		taken.take(Pipeline{Nodes: p.Nodes[:cap(p.Nodes)]})
		text, _ := Show(p)
		b := NewBuilder()
		for i, n := range p.Nodes {
			lay(t, b, i, n)
		}
		for range 3 {
			read, _, _ := Parse(text)
			built, _, _ := b.Done()
			if taken.take(read) || taken.take(built) || taken.takeInts(Live(p)) {
				t.Errorf("answers of the pipeline %d share memory", k)
			}
			for i := range p.Nodes {
				if taken.takeInts(Users(p, i)) || taken.takeInts(Above(p, i)) {
					t.Errorf("Users or Above of the pipeline %d share memory", k)
				}
			}
		}
	}
}

// within memory: is one text part of another one's memory?
func partOf(s, whole string) bool {
	at, from := uintptr(unsafe.Pointer(unsafe.StringData(s))), uintptr(unsafe.Pointer(unsafe.StringData(whole)))
	return at >= from && at < from+uintptr(len(whole))
}

// P11.5: Texts that are told are no parts of texts that were handed in.
func TestTextMemory(t *testing.T) {
	s := strings.Clone(lines("source int", "each 0 - list(it)", "group 1 0 0 0 acc sum", "each 0 0 list(it)"))
	p, _, e := Parse(s)
	if e != api.OK {
		t.Fatalf("Parse: %d", e)
	}
	for i := 1; i < 4; i++ {
		if n := p.Nodes[i]; n.Text == "" || partOf(n.Text, s) {
			t.Errorf("the Text %q stands in the text that was read", n.Text)
		}
	}
	text := strings.Clone("list(it)")
	b := NewBuilder()
	b.Source(typeOf("int"))
	b.Each(0, text)
	b.Group(0, text, plain)
	built, _, e := b.Done()
	if e != api.OK || partOf(built.Nodes[1].Text, text) || partOf(built.Nodes[2].Text, text) {
		t.Errorf("Done: %d, or a Text is one that was handed in", e)
	}
}

// spoilType sets all that is in a type, its spare room too.
func spoilType(t kind.Type) {
	for i, a := range t.Args[:cap(t.Args)] {
		spoilType(a)
		t.Args[:cap(t.Args)][i] = kind.Type{Kind: 4711}
	}
}

func spoilInts(places []int) {
	for i := range places[:cap(places)] {
		places[:cap(places)][i] = 4711
	}
}

// spoil sets all that is in the lists of a pipeline, their spare room too.
func spoil(p Pipeline) {
	for i, n := range p.Nodes[:cap(p.Nodes)] {
		spoilInts(n.In)
		spoilInts(n.Side)
		spoilType(n.Type)
		p.Nodes[:cap(p.Nodes)][i] = Node{Op: 4711}
	}
}

// P11.5: a builder keeps nothing of what it is told: it may all be changed behind that.
func TestBuilderKeepsNothing(t *testing.T) {
	for k, was := range several() {
		b := NewBuilder()
		for i, n := range roomy(was).Nodes {
			lay(t, b, i, n)
			spoilInts(n.In)
			spoilInts(n.Side)
			spoilType(n.Type)
		}
		wantBuilt(t, fmt.Sprint("the pipeline ", k), b, was)
	}
	// A type that was wrong stays so, though what was handed in becomes right; and the other way round.
	b, wrong := NewBuilder(), kind.Type{Kind: api.List, Args: []kind.Type{{Kind: 99}}}
	b.Source(wrong)
	wrong.Args[0].Kind = api.Int
	if _, at, e := b.Done(); at != 0 || e != api.ErrForm {
		t.Errorf("Done: %d, %d; want 0, ErrForm", at, e)
	}
	b, right := NewBuilder(), kind.Type{Kind: api.List, Args: []kind.Type{{Kind: api.Int}}}
	b.Source(right)
	right.Args[0].Kind = 99
	wantBuilt(t, "a list of ints", b, pipe(source("list(int)")))
}

// P11.5: what is told may be changed: neither the builder nor what is told behind it changes by that.
func TestToldApart(t *testing.T) {
	for k, was := range several() {
		place, want := Check(was)
		text, _ := Show(was)
		b := NewBuilder()
		for i, n := range was.Nodes {
			lay(t, b, i, n)
		}
		for range 2 {
			built, at, e := b.Done()
			if at != place || e != want || want == api.OK && !alike(built, was) {
				t.Fatalf("Done of the pipeline %d: %v, %d, %d", k, built, at, e)
			}
			spoil(built)
			if want != api.OK {
				continue
			}
			read, at, e := Parse(text)
			if at != 0 || e != api.OK || !alike(read, was) {
				t.Fatalf("Parse of the pipeline %d: %v, %d, %d", k, read, at, e)
			}
			spoil(read)
		}
		// What is laid behind Done doesn't come to what was told.
		built, _, _ := b.Done()
		lay(t, b, len(was.Nodes), source("int"))
		if want == api.OK && !alike(built, was) {
			t.Errorf("what Done told of the pipeline %d has grown or changed: %v", k, built)
		}
	}
}

// P11.5: Users, Above and Live that are told may be changed: the pipeline and what is told behind them don't change by that; nor do they, if the pipeline is changed.
func TestPlacesApart(t *testing.T) {
	p := roomy(river())
	before := seen(p)
	calls := []func() []int{func() []int { return Live(p) }}
	for i := range p.Nodes {
		calls = append(calls, func() []int { return Users(p, i) }, func() []int { return Above(p, i) })
	}
	var told, clones [][]int
	for k, call := range calls {
		first := call()
		was := slices.Clone(first)
		spoilInts(first)
		again := call()
		if !slices.Equal(again, was) || seen(p) != before {
			t.Errorf("the call %d: %v at first, %v then", k, was, again)
		}
		told, clones = append(told, again), append(clones, was)
	}
	spoil(p)
	for k := range told {
		if !slices.Equal(told[k], clones[k]) {
			t.Errorf("what the call %d told has changed: %v; want %v", k, told[k], clones[k])
		}
	}
}
