package valid

import (
	"slices"

	"watershed/api"
	"watershed/graph"
)

// whole tells what is wrong with a pipeline, if there is nothing wrong with any of its nodes.
func (v *Valid) whole() (at int, e api.Errno) {
	for at := range v.nodes {
		if v.Waits(at) && (v.hangs(at) || v.spread(at)) {
			return at, api.ErrInner
		}
	}
	sink := func(n graph.Node) bool { return n.Op == graph.Sink }
	if !slices.ContainsFunc(v.p.Nodes, sink) {
		return 0, api.ErrSink
	}
	return 0, api.OK
}

// hangs: does another Group, or a Side, hang on the Group at this place? What it tells
// early or late would be looked at there as if it were all.
func (v *Valid) hangs(at int) bool {
	inSide := func(other int) bool {
		looks := func(n graph.Node) bool { return slices.Contains(n.Side, other) }
		return slices.ContainsFunc(v.p.Nodes, looks)
	}
	wrong := func(other int) bool { return v.p.Nodes[other].Op == graph.Group || inSide(other) }
	return inSide(at) || slices.ContainsFunc(v.below(at), wrong)
}

// spread: does the Group at this place tell in parts what can't be put together again?
func (v *Valid) spread(at int) bool {
	if v.p.Nodes[at].Trig.Accumulate {
		return false
	}
	noSink := func(user int) bool { return v.p.Nodes[user].Op != graph.Sink }
	return !v.nodes[at].op.Plain() || slices.ContainsFunc(graph.Users(v.p, at), noSink)
}

// below tells the places of the nodes that a node is above.
func (v *Valid) below(at int) []int {
	var places []int
	for other := range v.p.Nodes {
		if slices.Contains(graph.Above(v.p, other), at) {
			places = append(places, other)
		}
	}
	return places
}
