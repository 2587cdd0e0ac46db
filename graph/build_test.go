package graph

import (
	"fmt"
	"strings"
	"testing"

	"watershed/api"
	"watershed/kind"
	"watershed/trigger"
	"watershed/window"
)

// lay tells a builder a node of a right Op with one In (but a Source and a Flatten), and checks the place that it tells.
func lay(t *testing.T, b *Builder, place int, n Node) {
	t.Helper()
	got := -1
	switch n.Op {
	case Source:
		got = b.Source(n.Type)
	case Each:
		got = b.Each(n.In[0], n.Text, n.Side...)
	case Window:
		got = b.Window(n.In[0], n.Fn)
	case Group:
		got = b.Group(n.In[0], n.Text, n.Trig)
	case Flatten:
		got = b.Flatten(n.In...)
	case Sink:
		got = b.Sink(n.In[0])
	}
	if got != place {
		t.Errorf("a node of Op %d is laid at %d; want %d", n.Op, got, place)
	}
}

// wantDone: behind all these nodes Done tells just what Check does, and the pipeline, if it is right.
func wantDone(t *testing.T, what string, p Pipeline) {
	t.Helper()
	b := NewBuilder()
	for i, n := range p.Nodes {
		lay(t, b, i, n)
	}
	wantBuilt(t, what, b, p)
}

func wantBuilt(t *testing.T, what string, b *Builder, p Pipeline) {
	t.Helper()
	place, want := Check(p)
	for range 2 {
		got, at, e := b.Done()
		if at != place || e != want {
			t.Errorf("Done of %s: %d, %d; want %d, %d", what, at, e, place, want)
		}
		if want == api.OK && !alike(got, p) || want != api.OK && !none(got) {
			t.Errorf("Done of %s: %v; want %v", what, got, p)
		}
	}
}

// P11.4: a builder that is told the nodes of right pipelines makes just these.
func TestBuilder(t *testing.T) {
	wantDone(t, "the river", river())
	for _, n := range ofEach() {
		wantDone(t, fmt.Sprint("Op ", n.Op), pipe(source("int"), n))
	}
	wantDone(t, "nothing", Pipeline{})
	wantDone(t, "one", pipe(source("list(pair(int,option(text)))")))
	wantDone(t, "32", pipe(sources(32)...))
	b := NewBuilder()
	in := b.Source(typeOf("int"))
	pairs := b.Each(in, "list(pair(mod(it,2),it))")
	sums := b.Group(pairs, "sum", plain)
	b.Sink(sums)
	wantBuilt(t, "the example", b, pipe(source("int"), each(0, "list(pair(mod(it,2),it))"), group(1, "sum", plain), sink(2)))
}

// P11.4: what is told wrongly is laid all the same; Done has Check's error and place.
func TestBuilderWrong(t *testing.T) {
	itself := kind.Type{Kind: api.Pair, Args: make([]kind.Type, 2)}
	itself.Args[0], itself.Args[1] = itself, itself
	for _, n := range []Node{
		{Op: Source}, {Op: Source, Type: kind.Type{Kind: api.List}}, {Op: Source, Type: kind.Type{Kind: api.Int, Args: make([]kind.Type, 1)}}, {Op: Source, Type: itself}, {Op: Source, Type: kind.Type{Kind: api.Some, Args: []kind.Type{{Kind: 99}}}},
		each(-1, "x"), each(1, "x"), each(2, "x"), each(mostInt, "x"), each(leastInt, "x"), each(0, ""), each(0, "\n"), each(0, strings.Repeat("x", 1001)), each(0, "x", 1), each(0, "x", -1), each(0, "x", 0, 0), each(0, "x", 0, 1, 2, 3, 4), each(0, "x", make([]int, 1000)...), each(0, "", -1),
		windowed(-1, fixed), windowed(1, fixed), windowed(0, window.Fn{Kind: 1}), windowed(0, window.Fn{Kind: 4}), windowed(5, window.Fn{Kind: 4}),
		group(-1, "x", plain), group(1, "x", plain), group(0, "", plain), group(0, "\x7f", plain), group(0, "x", trigger.Spec{Early: -1}), group(0, "x", trigger.Spec{Late: 1}),
		flatten(), flatten(1), flatten(-1), flatten(0, 0), flatten(0, 1, 2, 3, 4), flatten(make([]int, 1000)...), sink(1), sink(-1), sink(leastInt), sink(mostInt),
	} {
		p := pipe(source("int"), n)
		if _, e := Check(p); e == api.OK {
			t.Errorf("%v is right", n)
		}
		wantDone(t, fmt.Sprint("a wrong node ", n.Op, n.In, n.Side), p)
		wantDone(t, fmt.Sprint("a wrong node ahead of others ", n.Op, n.In, n.Side), pipe(source("int"), n, sink(0), sink(99)))
	}
}

// P11.4: what is laid stays, and Done ends nothing: nodes may be laid behind it, one that is wrong ahead of another one is still the one that is told.
func TestBuilderGoesOn(t *testing.T) {
	b := NewBuilder()
	wantBuilt(t, "nothing", b, Pipeline{})
	p := river()
	for i, n := range p.Nodes {
		lay(t, b, i, n)
		wantBuilt(t, fmt.Sprint("the first ", i+1), b, pipe(p.Nodes[:i+1]...))
	}
	wrong := append(p.Nodes, sink(6), source("int"))
	lay(t, b, 12, wrong[12])
	wantBuilt(t, "a Sink of a Sink", b, pipe(wrong[:13]...))
	lay(t, b, 13, wrong[13])
	wantBuilt(t, "one behind a Sink of a Sink", b, pipe(wrong...))
	if at, e := Check(pipe(wrong...)); at != 12 || e != api.ErrInput {
		t.Errorf("a Sink of a Sink: %d, %d", at, e)
	}
}

// P11.4: more nodes than may be are still laid, each at its place, and make no pipeline.
func TestBuilderTooMany(t *testing.T) {
	b := NewBuilder()
	for i := range 5000 {
		lay(t, b, i, append(sources(1), sink(0), sink(i), each(i-1, "x"))[min(i, i%4)])
		switch i {
		case 31:
			if _, at, e := b.Done(); at != 2 || e != api.ErrInput {
				t.Errorf("Done of 32 nodes: %d, %d; want 2, ErrInput", at, e)
			}
		case 32, 33, 34, 63, 64, 999, 4999:
			if p, at, e := b.Done(); at != 0 || e != api.ErrForm || !none(p) {
				t.Errorf("Done of %d nodes: %v, %d, %d; want 0, ErrForm", i+1, p, at, e)
			}
		}
	}
}

// P11.4: builders have nothing in common.
func TestBuildersApart(t *testing.T) {
	one, other := NewBuilder(), NewBuilder()
	for i, n := range river().Nodes {
		lay(t, one, i, n)
		if i%2 == 0 {
			lay(t, other, i/2, source("text"))
		}
	}
	wantBuilt(t, "the river", one, river())
	wantBuilt(t, "Sources", other, pipe(source("text"), source("text"), source("text"), source("text"), source("text"), source("text")))
	wantBuilt(t, "a new one", NewBuilder(), Pipeline{})
}
