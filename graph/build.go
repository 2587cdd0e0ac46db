package graph

import (
	"watershed/api"
	"watershed/kind"
	"watershed/trigger"
	"watershed/window"
)

// Builder lays nodes.
type Builder struct {
	nodes []Node
	laid  int // how many nodes it was told, those that are not kept, too
}

// NewBuilder: nothing is laid.
func NewBuilder() *Builder { return &Builder{} }

// Source lays a source.
func (b *Builder) Source(t kind.Type) int { return b.lay(Node{Op: Source, Type: t}) }

// Each lays a function.
func (b *Builder) Each(in int, text string, sides ...int) int {
	return b.lay(Node{Op: Each, In: []int{in}, Side: sides, Text: text})
}

// Window lays a windowing.
func (b *Builder) Window(in int, f window.Fn) int {
	return b.lay(Node{Op: Window, In: []int{in}, Fn: f})
}

// Group lays a grouping.
func (b *Builder) Group(in int, text string, t trigger.Spec) int {
	return b.lay(Node{Op: Group, In: []int{in}, Text: text, Trig: t})
}

// Flatten lays several as one.
func (b *Builder) Flatten(ins ...int) int { return b.lay(Node{Op: Flatten, In: ins}) }

// Sink lays a sink.
func (b *Builder) Sink(in int) int { return b.lay(Node{Op: Sink, In: []int{in}}) }

// Done: the pipeline.
func (b *Builder) Done() (p Pipeline, at int, e api.Errno) {
	if at, e = Check(Pipeline{Nodes: b.nodes}); e != api.OK {
		return Pipeline{}, at, e
	}
	for _, n := range b.nodes {
		p.Nodes = append(p.Nodes, n.fresh())
	}
	return p, 0, api.OK
}

// lay lays a node behind the others, and tells its place.
func (b *Builder) lay(n Node) int {
	b.nodes = add(b.nodes, n.fresh())
	b.laid++
	return b.laid - 1
}
