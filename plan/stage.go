package plan

import (
	"slices"

	"watershed/graph"
)

// begins: does the live node at this place begin a stage?
func (p *Plan) begins(at int) bool {
	n := p.nodes[at]
	return n.Op == graph.Source || n.Op == graph.Group || len(n.Side) > 0
}

// stage tells the stage of the head at this place. Nodes read only from those ahead of
// them: so whoever goes from the first one to the last has met all that a node reads
// from, when he comes to it.
func (p *Plan) stage(head int) Stage {
	s := Stage{Head: head}
	for _, at := range p.live {
		n := p.nodes[at]
		if !slices.ContainsFunc(n.In, s.has) {
			continue
		}
		if p.begins(at) {
			s.Outs = append(s.Outs, at)
			continue
		}
		s.Nodes = append(s.Nodes, at)
		if n.Op == graph.Sink {
			s.Sinks = append(s.Sinks, at)
		}
	}
	for _, at := range s.places() {
		if p.seen(at) {
			s.Kept = append(s.Kept, at)
		}
	}
	return s
}

// seen: does a live node look at the one at this place?
func (p *Plan) seen(at int) bool {
	looks := func(user int) bool { return slices.Contains(p.nodes[user].Side, at) }
	return slices.ContainsFunc(p.live, looks)
}

// has: do values of the head become values of the node at this place?
func (s Stage) has(at int) bool { return slices.Contains(s.places(), at) }

// places tells the places of all nodes of a stage, rising.
func (s Stage) places() []int { return slices.Concat([]int{s.Head}, s.Nodes) }

// fresh tells a stage in memory of its own.
func (s Stage) fresh() Stage {
	s.Nodes = append([]int(nil), s.Nodes...)
	s.Outs = append([]int(nil), s.Outs...)
	s.Sinks = append([]int(nil), s.Sinks...)
	s.Kept = append([]int(nil), s.Kept...)
	return s
}
